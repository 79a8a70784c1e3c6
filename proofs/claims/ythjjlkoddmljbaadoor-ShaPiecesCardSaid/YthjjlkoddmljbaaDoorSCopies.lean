/- The walk of the statement ShaCopies. -/
import Derived.Test.YthjjlkoddmljbaaDoorSHashed
import Derived.Laws.StructEq
set_option linter.unusedVariables false
namespace Go.Proofs.YthjjlkoddmljbaaDoor
open Go.RowKit Go.Shelf
theorem eq_items (T E : TypeId) (k : IntKind) (n : Nat) (f : Nat → Int) (d : Nat) (hE : Tryd.prog.plainKey E = true) (hs : Tryd.prog.cellsOf E = 1) (hu : Tryd.prog.underlying E = some (.int k)) (w : World) : ∀ is : List Nat, (∀ j ∈ is, j < n) → (Op.eqItems (d + 1) E (Tryd.prog.cellsOf E) (nums k n f) (nums k n f) is).run Tryd.prog w = .ok true w
  | [], _ => by simp [Op.eqItems]
  | j :: is, h => by
    have h1 := run_part_plain (P := Tryd.prog) (w := w) hE (nums_get k n f j (h j (by simp)))
    have h2 := eq_items T E k n f d hE hs hu w is (fun i hi => h i (by simp [hi]))
    rw [hs] at h2 ⊢
    simp only [Op.eqItems, Sem.run_bind, Nat.mul_one, h1, Result.andThen_ok, run_equalIn_int w d E k k (f j) (f j) hu]
    simp [h2]
theorem eq_hash (f : Nat → Int) (w : World) : (Op.equalIn 10000 38 (.agg (nums .u8 32 f)) (.agg (nums .u8 32 f))).run Tryd.prog w = .ok true w := by
  have hi : (Tryd.prog.info? 5).isSome = true := by kernel_rfl
  obtain ⟨i, hi⟩ := Option.isSome_iff_exists.1 hi
  rw [run_equalIn_array w 9999 _ _ Tryd.underlying38 hi]
  exact eq_items 38 5 .u8 32 f 9998 (by kernel_rfl) (by kernel_rfl) Tryd.underlying5 w _ (fun j hj => by simpa using hj)
theorem built_sha : Tryd.prog.built 32 [] = some (shaC [0, 0, 0, 0, 0, 0, 0, 0] (fun _ => 0) 0) := by kernel_rfl
/-- 'Sha{}' -/
theorem build_sha {ops : Array Oper} {rest : List Oper} {o : Oper} {a : Act} {w : World} {Q : Exit → Act → World → Prop}
    (hgd : o.guard = none) (ho : o.op = .build 32 #[]) (h : wpList Tryd.prog ops Q rest (a.put o.dst (.agg (shaC [0, 0, 0, 0, 0, 0, 0, 0] (fun _ => 0) 0))) w) : wpList Tryd.prog ops Q (o :: rest) a w := by
  have e : ((#[] : Array (Nat × Operand)).map fun (i, x) => (i, a.eval x)).toList = [] := by simp
  refine wpList_build hgd 32 #[] ho ?_ ?_
  · rw [e, built_sha]; rfl
  · rw [e, built_sha]; exact h
theorem row_le {w : World} {a : Option Addr} {len cap : Nat} {z : List Int} (h : IsRow .u8 w a len cap z) : len ≤ cap := by
  rcases h with ⟨_, rfl, rfl, _⟩ | ⟨_, _, h, _⟩
  · exact Nat.le_refl _
  · exact h
theorem ShaAt.grown {W X : World} {S T : Nat} {xs : List Int} (h : ShaAt W S xs) (hg : W.grownBy X (some T)) (hne : S ≠ T) : ShaAt X S xs := ⟨h.1, (hg.block S h.lt (fun e => hne (by injection e))).trans h.2⟩
theorem Tabs.grown {W X : World} {T : Nat} (h : Tabs W) (hg : W.grownBy X (some T)) (hT : 2 ≤ T) : Tabs X := ⟨h.1.of (hg.block 0 (by have := h.lt; omega) (fun e => by injection e; omega)), h.2.of (hg.block 1 h.lt (fun e => by injection e; omega))⟩
/-- Two Shas, the tables, and what lay before. -/
def ST (w : World) (S T : Nat) (xs ys : List Int) (W : World) : Prop := Tabs W ∧ ShaAt W S xs ∧ ShaAt W T ys ∧ Below w.heap.size w W
theorem ST.below {w W X : World} {S T : Nat} {xs ys : List Int} (h : ST w S T xs ys W) (hb : Below W.heap.size W X) : ST w S T xs ys X :=
  ⟨h.1.below h.1.lt hb, h.2.1.below hb h.2.1.lt, h.2.2.1.below hb h.2.2.1.lt, h.2.2.2.trans (hb.mono h.2.2.2.size)⟩
theorem ST.belowB {w W X : World} {S T B : Nat} {xs ys : List Int} (h : ST w S T xs ys W) (hb : Below B W X) (hS : S < B) (hT : T < B) (h1 : 1 < B) (hw : w.heap.size ≤ B) : ST w S T xs ys X :=
  ⟨h.1.below h1 hb, h.2.1.below hb hS, h.2.2.1.below hb hT, h.2.2.2.trans (hb.mono hw)⟩
theorem bys_at {w W X : World} {S : Nat} {a : Option Addr} {xs : List Int} {c : Nat} (h : Bys8 w.heap.size w (.slice a xs.length c) xs) (hD : Below w.heap.size w W) (hS : w.heap.size ≤ S) (hk : KeepsC S W X) : Bys8 W.heap.size X (.slice a xs.length c) xs :=
  ((h.below hD).apart hS hk).mono hD.size
set_option maxRecDepth 100000 in
set_option maxHeartbeats 2000000 in
theorem copies_yes (a : Option Addr) (xs : List Int) (ca : Nat) (b : Option Addr) (ys : List Int) (cb : Nat) (c : Option Addr) (zs : List Int) (cc : Nat) (w : World) (hT : Tabs w) (h1 : xs.length ≤ 1000) (h2 : ys.length ≤ 1000) (h3 : zs.length ≤ 1000)
    (ha : Bys8 w.heap.size w (.slice a xs.length ca) xs) (hb : Bys8 w.heap.size w (.slice b ys.length cb) ys) (hc : Bys8 w.heap.size w (.slice c zs.length cc) zs) (la : xs.length ≤ ca) (lb : ys.length ≤ cb) (lc : zs.length ≤ cc) :
    Calls Tryd.prog 8 #[.slice a xs.length ca, .slice b ys.length cb, .slice c zs.length cc] w fun e w' => e = .returned (.bool true) ∧ Below w.heap.size w w' := by
  have HT := Lib.hid hT
  have HA := Lib.hid ha
  have HB := Lib.hid hb
  have HC := Lib.hid hc
  have hlt := hT.lt
  clear hT ha hb hc
  go_enter Tryd.func8, Tryd.ntmps8
  go_wp2_with fail
  refine (alive_any w HT.out).mono ?_
  rintro e w1 ⟨rfl, hB1⟩
  have hz1 := hB1.size
  have D1 := Lib.hid hB1
  have T1 := Lib.hid (HT.out.below hlt hB1)
  have S1 := Lib.hid (shaAt_zero (show ShaIn (w1.alloc (.cells (shaC [0, 0, 0, 0, 0, 0, 0, 0] (fun _ => 0) 0) 32)) w1.heap.size _ _ _ from At.new _ w1 _))
  clear hB1
  go_wp2_with (refine build_sha rfl rfl ?_)
  have D2 : Below w.heap.size w (w1.alloc (.cells (shaC [0, 0, 0, 0, 0, 0, 0, 0] (fun _ => 0) 0) 32)) := D1.out.alloc hz1 _
  have T2 : Tabs (w1.alloc (.cells (shaC [0, 0, 0, 0, 0, 0, 0, 0] (fun _ => 0) 0) 32)) := T1.out.alloc _
  have z2 : (w1.alloc (.cells (shaC [0, 0, 0, 0, 0, 0, 0, 0] (fun _ => 0) 0) 32)).heap.size = w1.heap.size + 1 := by simp
  generalize w1.alloc (.cells (shaC [0, 0, 0, 0, 0, 0, 0, 0] (fun _ => 0) 0) 32) = w2 at *
  obtain ⟨S, hS⟩ : ∃ S, w1.heap.size = S := ⟨_, rfl⟩
  rw [hS] at S1 z2 hz1 ⊢
  clear hS D1 T1
  refine (write_any S [] xs a ca (by omega) (by simp; omega) la w2 T2 S1.out (fun X hX => bys_at HA.out D2 hz1 hX) HA.out.1).mono ?_
  rintro e w3 ⟨rfl, hX3, hG3⟩
  rw [List.nil_append] at hX3
  have D3 := Lib.hid (D2.trans (grown_below hG3 hz1 D2.size))
  have T3 := Lib.hid (T2.grown hG3 (by omega))
  have X3 := Lib.hid hX3
  have z3 := hG3.size
  have hw3 : w.heap.size ≤ w3.heap.size := by omega
  clear hX3 hG3 D2 T2 S1
  go_wp2_with fail
  refine (copy_any S xs w3 X3.out).mono ?_
  rintro e w4 ⟨rfl, hX4, hB4, z4⟩
  obtain ⟨T, hTT⟩ : ∃ T, w3.heap.size = T := ⟨_, rfl⟩
  have hST : S < T := by rw [← hTT]; exact X3.out.lt
  have X4 := Lib.hid (show ST w S T xs xs w4 from ⟨T3.out.below T3.out.lt hB4, X3.out.below hB4 X3.out.lt, by rw [← hTT]; exact hX4, D3.out.trans (hB4.mono D3.out.size)⟩)
  rw [hTT] at z4 z3 hw3 ⊢
  clear hX4 hB4 X3 T3 D3 hTT
  go_wp2_with fail
  refine (write_any S xs ys b cb (by omega) (by omega) lb w4 X4.out.1 X4.out.2.1 (fun X hX => bys_at HB.out X4.out.2.2.2 hz1 hX) HB.out.1).mono ?_
  rintro e w5 ⟨rfl, hX5, hG5⟩
  have X5 := Lib.hid (show ST w S T (xs ++ ys) xs w5 from ⟨X4.out.1.grown hG5 (by omega), hX5, X4.out.2.2.1.grown hG5 (by omega), X4.out.2.2.2.trans (grown_below hG5 hz1 X4.out.2.2.2.size)⟩)
  clear hX5 hG5 X4
  go_wp2_with fail
  refine (write_any T xs zs c cc (by omega) (by omega) lc w5 X5.out.1 X5.out.2.2.1 (fun X hX => bys_at HC.out X5.out.2.2.2 (by omega) hX) HC.out.1).mono ?_
  rintro e w6 ⟨rfl, hX6, hG6⟩
  have X6 := Lib.hid (show ST w S T (xs ++ ys) (xs ++ zs) w6 from ⟨X5.out.1.grown hG6 (by omega), X5.out.2.1.grown hG6 (by omega), hX6, X5.out.2.2.2.trans (grown_below hG6 (by omega) X5.out.2.2.2.size)⟩)
  clear hX6 hG6 X5
  have ha' : Bys8 w.heap.size (w6.alloc (.cells #[] 5)) (.slice a xs.length ca) xs := HA.out.below (X6.out.2.2.2.alloc X6.out.2.2.2.size _)
  have hz6 : w.heap.size ≤ w6.heap.size := X6.out.2.2.2.size
  have X7 : ST w S T (xs ++ ys) (xs ++ zs) (w6.alloc (.cells #[] 5)) := X6.out.below ((Below.refl _ _).alloc (Nat.le_refl _) _)
  go_wp2_with (first
    | (at_builtin; refine wpList_bapp8 rfl (.tmp 44) (.tmp 45) rfl w6.heap.size (.slice (some ⟨w6.heap.size, 0, none⟩) 0 0) [] rfl (Own8.empty w6) w.heap.size a xs.length ca xs rfl ha' (by simp; omega) (by simp) ?_; intro a1 c1 v1 hO1 hC1; have hv1 : Below w.heap.size w v1 := X7.2.2.2.trans (hC1.mono hz6); have hb1 := HB.out.below hv1; have hs1 : w6.heap.size ≤ v1.heap.size := Nat.le_trans (by simp) hC1.size)
    | (at_builtin; refine wpList_bapp8 rfl (.tmp 46) (.tmp 47) rfl w6.heap.size (.slice a1 ([] ++ xs).length c1) ([] ++ xs) rfl hO1 w.heap.size b ys.length cb ys rfl hb1 (by simp; omega) hs1 ?_; intro a2 c2 v2 hO2 hC2; have hv2 : Below w.heap.size w v2 := hv1.trans (hC2.mono hz6); have ha2 := HA.out.below (hv2.alloc hv2.size (.cells #[] 5)))
    | (at_builtin; refine wpList_bapp8 rfl (.tmp 49) (.tmp 50) rfl v2.heap.size (.slice (some ⟨v2.heap.size, 0, none⟩) 0 0) [] rfl (Own8.empty v2) w.heap.size a xs.length ca xs rfl ha2 (by simp; omega) (by simp) ?_; intro a3 c3 v3 hO3 hC3; have hv3 : Below w.heap.size w v3 := (hv2.alloc hv2.size (.cells #[] 5)).trans (hC3.mono hv2.size); have hc3 := HC.out.below hv3; have hs3 : v2.heap.size ≤ v3.heap.size := Nat.le_trans (by simp) hC3.size)
    | (at_builtin; refine wpList_bapp8 rfl (.tmp 51) (.tmp 52) rfl v2.heap.size (.slice a3 ([] ++ xs).length c3) ([] ++ xs) rfl hO3 w.heap.size c zs.length cc zs rfl hc3 (by simp; omega) hs3 ?_; intro a4 c4 v4 hO4 hC4)
    | fail)
  have hTw : T < w6.heap.size := X6.out.2.2.1.lt
  have hCa : Below v2.heap.size v2 v3 := ((Below.refl _ v2).alloc (Nat.le_refl _) (.cells #[] 5)).trans hC3
  have hCb : Below v2.heap.size v2 v4 := hCa.trans hC4
  have hCc : Below w6.heap.size w6 v2 := (((Below.refl _ w6).alloc (Nat.le_refl _) (.cells #[] 5)).trans hC1).trans hC2
  have X8 := Lib.hid (X6.out.belowB (hCc.trans (hCb.mono hCc.size)) (by omega) hTw (by omega) hz6)
  have o2 := hO2.bys.below hCb
  have o4 := hO4.bys
  have l2 := hO2.cap
  have l4 := hO4.cap
  rw [List.nil_append] at o2 o4 l2 l4
  have O2 := Lib.hid (o2.mono hCb.size)
  have O4 := Lib.hid o4
  have e1 := eq_hash (bf (sha (xs ++ ys)))
  have e2 := eq_hash (bf (sha (xs ++ zs)))
  have n1 : (xs ++ ys).length ≤ 2000 := by rw [List.length_append]; omega
  have n2 : (xs ++ zs).length ≤ 2000 := by rw [List.length_append]; omega
  have N1 := Lib.hid (And.intro n1 (And.intro n2 (And.intro l2 l4)))
  clear n1 n2 l2 l4 o2 o4 hCa hCb hCc hO1 hO2 hO3 hO4 hC1 hC2 hC3 hC4 ha2 hv3 hc3 hs3 hv2 hb1 hv1 hs1 X7 X6 ha' HA HB HC
  refine (sum_any S (xs ++ ys) (by have := N1.out.1; omega) v4 X8.out.1 X8.out.2.1).mono ?_
  rintro e v5 ⟨rfl, hB5⟩
  have X9 := Lib.hid (X8.out.below hB5)
  have ho := of_any a2 (xs ++ ys) c2 (by have := N1.out.1; omega) N1.out.2.2.1 v5 X9.out.1 ((O2.out.below hB5).mono hB5.size)
  rw [List.length_append] at ho
  have HO := Lib.hid ho
  have O4b := Lib.hid ((O4.out.below hB5).mono hB5.size)
  clear ho hB5 X8 O4
  go_wp2_with fail
  refine HO.out.mono ?_
  rintro e v6 ⟨rfl, hB6⟩
  have X10 := Lib.hid (X9.out.below hB6)
  have O4c := Lib.hid ((O4b.out.below hB6).mono hB6.size)
  clear HO hB6 X9 O4b
  go_wp2_with fail
  refine (sum_any T (xs ++ zs) (by have := N1.out.2.1; omega) v6 X10.out.1 X10.out.2.2.1).mono ?_
  rintro e v7 ⟨rfl, hB7⟩
  have X11 := Lib.hid (X10.out.below hB7)
  have ho := of_any a4 (xs ++ zs) c4 (by have := N1.out.2.1; omega) N1.out.2.2.2 v7 X11.out.1 ((O4c.out.below hB7).mono hB7.size)
  rw [List.length_append] at ho
  have HO := Lib.hid ho
  clear ho hB7 X10 O4c
  go_wp2_with fail
  refine HO.out.mono ?_
  rintro e v8 ⟨rfl, hB8⟩
  have X12 := Lib.hid (X11.out.below hB8)
  clear HO hB8 X11
  go_wp2_with fail
  refine (len_any S (xs ++ ys) v8 X12.out.2.1).mono ?_
  rintro e v9 ⟨rfl, rfl⟩
  go_wp2_with fail
  refine (len_any T (xs ++ zs) v8 X12.out.2.2.1).mono ?_
  rintro e v9 ⟨rfl, rfl⟩
  go_wp2
  go_ret
  exact ⟨by simp, X12.out.2.2.2⟩
theorem copies_long (a : Option Addr) (la ca : Nat) (b : Option Addr) (lb cb : Nat) (c : Option Addr) (lc cc : Nat) (w : World) (hT : Tabs w) (h : ¬ (la ≤ 1000 ∧ lb ≤ 1000 ∧ lc ≤ 1000)) :
    Calls Tryd.prog 8 #[.slice a la ca, .slice b lb cb, .slice c lc cc] w fun e w' => e = .returned (.bool true) ∧ Below w.heap.size w w' := by
  have hal := alive_any w hT
  clear hT
  by_cases h1 : 1000 < la
  · clear h
    go_enter Tryd.func8, Tryd.ntmps8
    go_wp2_with fail
    refine hal.mono ?_
    rintro e w1 ⟨rfl, hB1⟩
    go_wp2
    go_ret
    exact ⟨rfl, hB1⟩
  · by_cases h2 : 1000 < lb
    · clear h
      have h1' : la ≤ 1000 := by omega
      clear h1
      go_enter Tryd.func8, Tryd.ntmps8
      go_wp2_with fail
      refine hal.mono ?_
      rintro e w1 ⟨rfl, hB1⟩
      go_wp2
      go_ret
      exact ⟨rfl, hB1⟩
    · have h1' : la ≤ 1000 := by omega
      have h2' : lb ≤ 1000 := by omega
      have h3 : 1000 < lc := by omega
      clear h h1 h2
      go_enter Tryd.func8, Tryd.ntmps8
      go_wp2_with fail
      refine hal.mono ?_
      rintro e w1 ⟨rfl, hB1⟩
      go_wp2
      go_ret
      exact ⟨rfl, hB1⟩
theorem copies_any (a : Option Addr) (la ca : Nat) (za : List Int) (b : Option Addr) (lb cb : Nat) (zb : List Int) (c : Option Addr) (lc cc : Nat) (zc : List Int) (w : World) (hT : Tabs w) (ha : IsRow .u8 w a la ca za) (hb : IsRow .u8 w b lb cb zb) (hc : IsRow .u8 w c lc cc zc) :
    Calls Tryd.prog 8 #[.slice a la ca, .slice b lb cb, .slice c lc cc] w fun e w' => e = .returned (.bool true) ∧ Below w.heap.size w w' := by
  by_cases h : la ≤ 1000 ∧ lb ≤ 1000 ∧ lc ≤ 1000
  · obtain ⟨xs, rfl, hI⟩ := bys8_of_row ha
    obtain ⟨ys, rfl, hJ⟩ := bys8_of_row hb
    obtain ⟨zs, rfl, hK⟩ := bys8_of_row hc
    exact copies_yes a xs ca b ys cb c zs cc w hT h.1 h.2.1 h.2.2 hI hJ hK (row_le ha) (row_le hb) (row_le hc)
  · exact copies_long a la ca b lb cb c lc cc w hT h
end Go.Proofs.YthjjlkoddmljbaaDoor
