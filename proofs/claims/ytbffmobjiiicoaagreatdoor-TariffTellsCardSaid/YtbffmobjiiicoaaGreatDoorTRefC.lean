/- The document's Check of a tariff. -/
import Derived.Test.YtbffmobjiiicoaaGreatDoorTTable
import Derived.Test.YtbffmobjiiicoaaGreatDoorTGreat
import Derived.Test.YtbffmobjiiicoaaGreatDoorJH7
import Derived.Test.YtbffmobjiiicoaaGreatDoorJV2
import Derived.Test.YtbffmobjiiicoaaGreatDoorJB3
set_option linter.unusedVariables false
set_option linter.unusedSimpArgs false
namespace Go.Proofs.YtbffmobjiiicoaaGreatDoor
open Go.RowKit Go.Shelf
theorem tabIs_copy {P P' : Nat → B9.Pl} {pl : Nat} {R : Nat → B9.Ru} {rl : Nat} (h : ∀ i, (P' i).len = (P i).len ∧ (P' i).L = (P i).L) : decide (B9.TabIs P' pl R rl) = decide (B9.TabIs P pl R rl) := by
  have e : B9.TabIs P' pl R rl ↔ B9.TabIs P pl R rl := by
    unfold B9.TabIs
    simp only [fun i => (h i).1, fun i => (h i).2]
  exact decide_eq_decide.2 e
theorem tarE_1 {x : Ta} (h1 : ¬ ZoneIs x.off x.R x.zl) : tarE x = 70 := by simp [tarE, firstE, zE_no h1]
theorem tarE_2 {x : Ta} (h1 : ZoneIs x.off x.R x.zl) (h2 : ¬ H8.CalIs x.H x.hl x.S x.sl) : tarE x = 80 := by simp [tarE, firstE, zE_yes h1, H8.calE, h2]
theorem tarE_3 {x : Ta} (h1 : ZoneIs x.off x.R x.zl) (h2 : H8.CalIs x.H x.hl x.S x.sl) (h3 : ¬ B9.TabIs x.P x.pl x.Q x.rl) : tarE x = 90 := by simp [tarE, firstE, zE_yes h1, H8.calE, h2, B9.tErr_no h3]
theorem tarE_4 {x : Ta} (h1 : ZoneIs x.off x.R x.zl) (h2 : H8.CalIs x.H x.hl x.S x.sl) (h3 : B9.TabIs x.P x.pl x.Q x.rl) : tarE x = if V10.tErr x.l ≠ 0 then V10.tErr x.l else pE x.l := by
  by_cases h4 : V10.tErr x.l = 0
  · by_cases h5 : pE x.l = 0
    · simp [tarE, firstE, zE_yes h1, H8.calE, h2, B9.tErr_yes h3, h4, h5]
    · simp [tarE, firstE, zE_yes h1, H8.calE, h2, B9.tErr_yes h3, h4, h5]
  · simp [tarE, firstE, zE_yes h1, H8.calE, h2, B9.tErr_yes h3, h4]
/-- The three parts of a tariff, boxed from block n on. -/
structure Box3 (W : World) (n : Nat) (x : Ta) : Prop where
  z0 : W.cell? ⟨n, 0, none⟩ = some (.int .i64 x.off)
  z1 : W.cell? ⟨n, 1, none⟩ = some (.slice x.za x.zl x.zc)
  c0 : W.cell? ⟨n + 1, 0, none⟩ = some (.slice x.ha x.hl x.hc)
  c1 : W.cell? ⟨n + 1, 1, none⟩ = some (.slice x.sa x.sl x.sc)
  b0 : W.cell? ⟨n + 1 + 1, 0, none⟩ = some (.slice x.pa x.pl x.pc)
  b1 : W.cell? ⟨n + 1 + 1, 1, none⟩ = some (.slice x.ra x.rl x.rc)
  sz : n + 1 + 1 < W.heap.size
theorem Box3.next {W X : World} {n : Nat} {x : Ta} (h : Box3 W n x) (hB : Below W.heap.size W X) : Box3 X n x :=
  ⟨(hB.cell (p := ⟨n, 0, none⟩) (by have := h.sz; show n < W.heap.size; omega)).trans h.z0, (hB.cell (p := ⟨n, 1, none⟩) (by have := h.sz; show n < W.heap.size; omega)).trans h.z1,
    (hB.cell (p := ⟨n + 1, 0, none⟩) (by have := h.sz; show n + 1 < W.heap.size; omega)).trans h.c0, (hB.cell (p := ⟨n + 1, 1, none⟩) (by have := h.sz; show n + 1 < W.heap.size; omega)).trans h.c1,
    (hB.cell (p := ⟨n + 1 + 1, 0, none⟩) h.sz).trans h.b0, (hB.cell (p := ⟨n + 1 + 1, 1, none⟩) h.sz).trans h.b1, Nat.lt_of_lt_of_le h.sz hB.size⟩
theorem Box3.new (w : World) (x : Ta) : Box3 (((w.alloc (.cells #[.int .i64 x.off, .slice x.za x.zl x.zc] 24)).alloc (.cells #[.slice x.ha x.hl x.hc, .slice x.sa x.sl x.sc] 28)).alloc (.cells #[.slice x.pa x.pl x.pc, .slice x.ra x.rl x.rc] 32)) w.heap.size x ∧ Below w.heap.size w (((w.alloc (.cells #[.int .i64 x.off, .slice x.za x.zl x.zc] 24)).alloc (.cells #[.slice x.ha x.hl x.hc, .slice x.sa x.sl x.sc] 28)).alloc (.cells #[.slice x.pa x.pl x.pc, .slice x.ra x.rl x.rc] 32)) := by
  have a1 := heap_alloc_new w (.cells #[.int .i64 x.off, .slice x.za x.zl x.zc] 24)
  have s1 : (w.alloc (.cells #[.int .i64 x.off, .slice x.za x.zl x.zc] 24)).heap.size = w.heap.size + 1 := World.size_alloc _ _
  generalize hW1 : w.alloc (.cells #[.int .i64 x.off, .slice x.za x.zl x.zc] 24) = W1 at *
  have a2 := heap_alloc_new W1 (.cells #[.slice x.ha x.hl x.hc, .slice x.sa x.sl x.sc] 28)
  have s2 : (W1.alloc (.cells #[.slice x.ha x.hl x.hc, .slice x.sa x.sl x.sc] 28)).heap.size = W1.heap.size + 1 := World.size_alloc _ _
  have a12 := heap_old a1 (.cells #[.slice x.ha x.hl x.hc, .slice x.sa x.sl x.sc] 28)
  have hB2 := ((Below.refl w.heap.size w).alloc (Nat.le_refl _) (.cells #[.int .i64 x.off, .slice x.za x.zl x.zc] 24))
  rw [hW1] at hB2
  have hB3 := hB2.alloc (by omega) (.cells #[.slice x.ha x.hl x.hc, .slice x.sa x.sl x.sc] 28)
  generalize hW2 : W1.alloc (.cells #[.slice x.ha x.hl x.hc, .slice x.sa x.sl x.sc] 28) = W2 at *
  have a3 := heap_alloc_new W2 (.cells #[.slice x.pa x.pl x.pc, .slice x.ra x.rl x.rc] 32)
  have a13 := heap_old a12 (.cells #[.slice x.pa x.pl x.pc, .slice x.ra x.rl x.rc] 32)
  have a23 := heap_old a2 (.cells #[.slice x.pa x.pl x.pc, .slice x.ra x.rl x.rc] 32)
  have hB4 := hB3.alloc (by omega) (.cells #[.slice x.pa x.pl x.pc, .slice x.ra x.rl x.rc] 32)
  rw [s1] at a23 s2
  rw [s2] at a3
  exact ⟨⟨cell_of_row _ _ 0 _ _ _ a13, cell_of_row _ _ 1 _ _ _ a13, cell_of_row _ _ 0 _ _ _ a23, cell_of_row _ _ 1 _ _ _ a23, cell_of_row _ _ 0 _ _ _ a3, cell_of_row _ _ 1 _ _ _ a3, by rw [World.size_alloc, s2]; omega⟩, hB4⟩
abbrev calVx (x : Ta) : Value := H8.calV x.ha x.hl x.hc x.sa x.sl x.sc
abbrev tabVx (x : Ta) : Value := B9.tabV x.pa x.pl x.pc x.ra x.rl x.rc
set_option maxRecDepth 20000 in
set_option maxHeartbeats 4000000 in
/-- The document's Check is the program's. -/
theorem rtcheck_any (x : Ta) (w : World) (hA : TarAt w.heap.size w x) (hL : TarLen x) (hS : Small2 x) :
    Calls Tryz.prog 6 #[zoneV x.off x.za x.zl x.zc, calVx x, tabVx x, .slice x.va x.l.length x.vc] w fun e w' => e = .returned (.int .i64 (tarE x)) ∧ Below w.heap.size w w' := by
  obtain ⟨n3, hb0⟩ := Box3.new w x
  have H1 := Lib.hid (fun W (hW : Below w.heap.size w W) => rmayZ_any x.off x.za x.zl x.zc x.R W hL.z (hA.up hW).z)
  have H2 := Lib.hid (fun W (hW : Below w.heap.size w W) => H8.rMay_any x.ha x.hl x.hc x.sa x.sl x.sc x.H x.S W (hA.up hW).h (hA.up hW).s hL.h hL.s)
  have H3 := Lib.hid (fun W (hW : Below w.heap.size w W) => B9.table_any x.pa x.pl x.pc x.ra x.rl x.rc x.P x.Q W (hA.up hW).p (hA.up hW).q hS.1.2.2.2.1 hS.2.1 hS.1.2.2.2.2.1)
  have H4 := Lib.hid (fun W (hW : Below w.heap.size w W) => V10.rCheck_any x.va x.l.length x.vc x.l rfl W (hA.up hW).v hL.v)
  have HV := Lib.hid (fun W (hW : Below w.heap.size w W) => (hA.up hW).v)
  have HPL := Lib.hid (show x.pl ≤ maxLen ∧ x.rl ≤ maxLen from ⟨hL.p, hL.q⟩)
  have HN := Lib.hid (show x.l.length ≤ 210 from hS.1.2.2.2.2.2)
  have HB0 := Lib.hid hb0
  have HX0 := Lib.hid n3
  have hor1 : decide (ZoneIs x.off x.R x.zl) = true ∧ Hid (ZoneIs x.off x.R x.zl) ∨ decide (ZoneIs x.off x.R x.zl) = false ∧ Hid (tarE x = 70) := by
    by_cases h1 : ZoneIs x.off x.R x.zl
    · exact .inl ⟨decide_eq_true h1, Lib.hid h1⟩
    · exact .inr ⟨decide_eq_false h1, Lib.hid (tarE_1 h1)⟩
  have hor2 : decide (H8.CalIs x.H x.hl x.S x.sl) = true ∧ Hid (H8.CalIs x.H x.hl x.S x.sl) ∨ decide (H8.CalIs x.H x.hl x.S x.sl) = false ∧ Hid (ZoneIs x.off x.R x.zl → tarE x = 80) := by
    by_cases h1 : H8.CalIs x.H x.hl x.S x.sl
    · exact .inl ⟨decide_eq_true h1, Lib.hid h1⟩
    · exact .inr ⟨decide_eq_false h1, Lib.hid (fun h0 => tarE_2 h0 h1)⟩
  have hor3 : decide (B9.TabIs x.P x.pl x.Q x.rl) = true ∧ Hid (B9.TabIs x.P x.pl x.Q x.rl) ∨ decide (B9.TabIs x.P x.pl x.Q x.rl) = false ∧ Hid (ZoneIs x.off x.R x.zl → H8.CalIs x.H x.hl x.S x.sl → tarE x = 90) := by
    by_cases h1 : B9.TabIs x.P x.pl x.Q x.rl
    · exact .inl ⟨decide_eq_true h1, Lib.hid h1⟩
    · exact .inr ⟨decide_eq_false h1, Lib.hid (fun h0 h0' => tarE_3 h0 h0' h1)⟩
  have HO2 := Lib.hid hor2
  have HO3 := Lib.hid hor3
  clear hA hL hS hb0 n3 hor2 hor3
  generalize decide (ZoneIs x.off x.R x.zl) = d1 at *
  generalize decide (H8.CalIs x.H x.hl x.S x.sl) = d2 at *
  go_enter Tryz.func6, Tryz.ntmps6
  have hx := HX0.out
  obtain ⟨z0, z1, c0, c1, b0, b1, sz⟩ := hx
  go_wp2_with fail
  refine (H1.out _ HB0.out).mono ?_
  rintro e w1 ⟨rfl, hB⟩
  have HB1 := Lib.hid (HB0.out.trans (hB.mono HB0.out.size))
  have HX1 := Lib.hid (HX0.out.next hB)
  clear z0 z1 c0 c1 b0 b1 sz hB
  rcases hor1 with ⟨e1, T1⟩ | ⟨e1, T1⟩
  case inr =>
    subst e1
    go_wp2
    go_ret
    exact ⟨by rw [T1.out]; rfl, HB1.out⟩
  subst e1
  obtain ⟨z0, z1, c0, c1, b0, b1, sz⟩ := HX1.out
  go_wp2_with fail
  refine (H2.out _ HB1.out).mono ?_
  rintro e w2 ⟨rfl, hB⟩
  have HB2 := Lib.hid (HB1.out.trans (hB.mono HB1.out.size))
  have HX2 := Lib.hid (HX1.out.next hB)
  clear z0 z1 c0 c1 b0 b1 sz hB
  rcases HO2.out with ⟨e1, T2⟩ | ⟨e1, T2⟩
  case inr =>
    subst e1
    go_wp2
    go_ret
    exact ⟨by rw [T2.out T1.out]; rfl, HB2.out⟩
  subst e1
  obtain ⟨z0, z1, c0, c1, b0, b1, sz⟩ := HX2.out
  go_wp2_with fail
  refine (H3.out _ HB2.out).mono ?_
  rintro e w3 ⟨⟨pa', pc', ra', rc', P', rfl, hP', hR', heq⟩, hB⟩
  have HB3 := Lib.hid (HB2.out.trans (hB.mono HB2.out.size))
  have HPR := Lib.hid (show B9.PlsAt w3.heap.size w3 pa' x.pl P' ∧ B9.RusAt w3.heap.size w3 ra' x.rl x.Q from ⟨hP', hR'⟩)
  have HEQ := Lib.hid (tabIs_copy (pl := x.pl) (R := x.Q) (rl := x.rl) heq)
  clear z0 z1 c0 c1 b0 b1 sz hB hP' hR' heq
  go_wp2_with fail
  refine (B9.rCheckT_any pa' x.pl pc' ra' x.rl rc' P' x.Q w3 HPR.out.1 HPR.out.2 HPL.out.1 HPL.out.2).mono ?_
  rintro e w4 ⟨he, hB⟩
  rw [HEQ.out] at he
  subst he
  have HB4 := Lib.hid (HB3.out.trans (hB.mono HB3.out.size))
  clear hB
  generalize decide (B9.TabIs x.P x.pl x.Q x.rl) = d3 at *
  rcases HO3.out with ⟨e1, T3⟩ | ⟨e1, T3⟩
  case inr =>
    subst e1
    go_wp2
    go_ret
    exact ⟨by rw [T3.out T1.out T2.out]; rfl, HB4.out⟩
  subst e1
  have HE4 := Lib.hid (tarE_4 T1.out T2.out T3.out)
  have hE5 : (V10.tErr x.l != 0) = true ∧ Hid (tarE x = V10.tErr x.l) ∨ (V10.tErr x.l != 0) = false ∧ Hid (tarE x = pE x.l) := by
    by_cases h : V10.tErr x.l = 0
    · exact .inr ⟨by simp [h], Lib.hid (by rw [HE4.out]; simp [h])⟩
    · exact .inl ⟨by simp [h], Lib.hid (by rw [HE4.out]; simp [h])⟩
  generalize V10.tErr x.l = te at *
  go_wp2_with fail
  refine (H4.out _ HB4.out).mono ?_
  rintro e w5 ⟨rfl, hB⟩
  have HB5 := Lib.hid (HB4.out.trans (hB.mono HB4.out.size))
  clear hB
  rcases hE5 with ⟨e1, T5⟩ | ⟨e1, T5⟩
  case inl =>
    go_wp2
    go_ret
    exact ⟨by rw [T5.out]; rfl, HB5.out⟩
  have hor0 : ((x.l.length : Int) == 0) = true ∧ Hid (pE x.l = 110) ∨ ((x.l.length : Int) == 0) = false ∧ Hid (x.l ≠ []) := by
    by_cases h : x.l = []
    · exact .inl ⟨by rw [h]; rfl, Lib.hid (by rw [h]; exact pE_nil)⟩
    · exact .inr ⟨by
        have : x.l.length ≠ 0 := fun q => h (List.eq_nil_of_length_eq_zero q)
        simp; exact h, Lib.hid h⟩
  rcases hor0 with ⟨e2, T6⟩ | ⟨e2, T6⟩
  case inl =>
    go_wp2
    go_ret
    exact ⟨by rw [T5.out, T6.out]; rfl, HB5.out⟩
  have HM := Lib.hid (show x.l.length ≤ 9223372036854775806 by have := HN.out; omega)
  clear HX0 HX1 HX2 HO2 HO3
  go_wp2_with fail
  go_loopw [11] (fun i wr => ∃ k : Nat, k ≤ x.l.length ∧ i = .int .i64 k ∧ (∀ (j : Nat) (v : V10.Ve), j < k → x.l[j]? = some v → v.ps.length = 8) ∧ wr = w5) (fun i _ => x.l.length - (intOf i).toNat)
  case atStart => exact ⟨0, Nat.zero_le _, rfl, fun j v hj => absurd hj (Nat.not_lt_zero _), rfl⟩
  case round =>
    obtain ⟨k, hk, rfl, hall, rfl⟩ := hrel
    have HALL := Lib.hid hall
    by_cases hlt : k < x.l.length
    · obtain ⟨v, hv⟩ : ∃ v, x.l[k]? = some v := ⟨_, List.getElem?_eq_getElem hlt⟩
      obtain ⟨ab, ao, a', c', hae, hb, d0, d1, hc, hp⟩ := HV.out _ HB5.out k v hv
      have HAE := Lib.hid hae
      have hd : decide (k < x.l.length) = true := by simpa using hlt
      have i1 : (k : Int) < x.l.length := by omega
      have wk : wrap64 ((k : Int) + 1) = ((k + 1 : Nat) : Int) := by have := HM.out; unfold wrap64; omega
      have HVV := Lib.hid hv
      have HK := Lib.hid hlt
      clear hall hv hlt hk hc hp hb
      by_cases h8 : v.ps.length = 8
      · have h8' : ((v.ps.length : Int) != 8) = false := by simp [h8]
        have H8' := Lib.hid h8
        clear h8
        rw [hae]
        go_wp2
        go_roundw
        case rel =>
          refine ⟨k + 1, HK.out, by first | rfl | rw [wk], fun j u hj hu => ?_, by trivial⟩
          rcases Nat.lt_or_ge j k with q | q
          · exact HALL.out j u q hu
          · obtain rfl : j = k := by omega
            rw [HVV.out] at hu
            cases hu
            exact H8'.out
        case measure =>
          have hk2 := HK.out
          first
            | (show x.l.length - (intOf (.int .i64 (wrap64 ((k : Int) + 1)))).toNat < x.l.length - (intOf (.int .i64 (k : Int))).toNat; rw [wk])
            | (show x.l.length - (intOf (.int .i64 ((k + 1 : Nat) : Int))).toNat < x.l.length - (intOf (.int .i64 (k : Int))).toNat)
          show x.l.length - ((k + 1 : Nat) : Int).toNat < x.l.length - ((k : Nat) : Int).toNat
          omega
      · have h8' : ((v.ps.length : Int) != 8) = true := by simp; omega
        have HE := Lib.hid (pE_bad HVV.out h8)
        clear h8
        rw [hae]
        go_wp2
        go_ret
        exact ⟨by rw [T5.out, HE.out]; rfl, HB5.out⟩
    · have hd : decide (k < x.l.length) = false := by simpa using hlt
      have e := pE_good (l := x.l) T6.out (fun j v hv => HALL.out j v (by
        have := (List.getElem?_eq_some_iff.1 hv).1
        omega) hv)
      have HE := Lib.hid e
      have hke : k = x.l.length := by omega
      clear hall hlt hk e hke
      go_wp2
      go_ret
      exact ⟨by rw [T5.out, HE.out]; rfl, HB5.out⟩
end Go.Proofs.YtbffmobjiiicoaaGreatDoor
