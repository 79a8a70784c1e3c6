/- The contracts of a Mac's Sum, and of Of. -/
import Derived.Test.YtkhhejkemkldgaaDoorMNew
set_option linter.unusedVariables false
set_option linter.unusedSimpArgs false
namespace Go.Proofs.YtkhhejkemkldgaaDoor
open Go.RowKit Go.Shelf
theorem hash_bys {n g : Nat} {hs : List Int} {X : World} (hb : Bytes hs) (hl : hs.length = 32) (h : At 38 X g (nums .u8 32 (bf hs))) (hlt : g < n) : Bys8 n X (.slice (some ⟨g, 0, none⟩) 32 32) hs :=
  ⟨hb, .inr ⟨g, 0, 32, by rw [hl], hlt, fun j hj => by rw [hl] at hj; rw [Nat.zero_add]; exact h.num j hj⟩⟩
theorem write_hash (S g : Nat) (os is : List Int) (hS : 2 ≤ S) (hne : g ≠ S) (ho : os.length ≤ 1000) (w : World) (hT : Tabs w) (hX : ShaAt w S os) (h : At 38 w g (nums .u8 32 (bf (sha is)))) :
    Calls Tryd.prog 9 #[.pointer (some ⟨S, 0, none⟩), .slice (some ⟨g, 0, none⟩) 32 32] w fun e w' => e = .returned (.tuple #[]) ∧ ShaAt w' S (os ++ sha is) ∧ w.grownBy w' (some S) := by
  obtain ⟨hs, hh⟩ : ∃ hs, sha is = hs := ⟨_, rfl⟩
  have hl := sha_length is
  have hb := sha_bytes is
  rw [hh] at h hl hb
  rw [hh]
  have hw := write_any S os hs (some ⟨g, 0, none⟩) 32 hS (by omega) (by omega) w hT hX (fun X hX => by rw [hl]; exact hash_bys hb hl (hX.at_ h hne) h.lt) hb
  rw [hl] at hw
  exact hw
theorem inner_sum (M : Nat) (is os : List Int) (hi : is.length ≤ 100000000000) (w : World) (hT : Tabs w) (hM : MacAt w M is os) :
    Calls Tryd.prog 10 #[.pointer (some ⟨M, 0, none⟩)] w fun e w' => e = .returned (.agg (nums .u8 32 (bf (sha is)))) ∧ Below w.heap.size w w' := sumL_any (locI M os) is hi w hT hM.inner
theorem inner_copy (M : Nat) (is os : List Int) (w : World) (hM : MacAt w M is os) :
    Calls Tryd.prog 12 #[.pointer (some ⟨M, 0, none⟩)] w fun e w' => e = .returned (.pointer (some ⟨w.heap.size, 0, none⟩)) ∧ ShaAt w' w.heap.size is ∧ Below w.heap.size w w' ∧ w.heap.size < w'.heap.size := copyL_any (locI M os) is w hM.inner
theorem outer_copy (M : Nat) (is os : List Int) (w : World) (hM : MacAt w M is os) :
    Calls Tryd.prog 12 #[.pointer (some ⟨M, 73, none⟩)] w fun e w' => e = .returned (.pointer (some ⟨w.heap.size, 0, none⟩)) ∧ ShaAt w' w.heap.size os ∧ Below w.heap.size w w' ∧ w.heap.size < w'.heap.size := copyL_any (locO M is) os w hM.outer
set_option maxRecDepth 100000 in
set_option maxHeartbeats 300000 in
theorem msum_any (M : Nat) (is os : List Int) (hi : is.length ≤ 100000000000) (ho : 0 < os.length) (hol : os.length ≤ 1000) (w : World) (hT : Tabs w) (hM : MacAt w M is os) :
    Calls Tryd.prog 20 #[.pointer (some ⟨M, 0, none⟩)] w fun e w' => e = .returned (.agg (nums .u8 32 (bf (sha (os ++ sha is))))) ∧ Below w.heap.size w w' := by
  have hzh := (zero_of_info zero_hash).1
  have hlt := hT.lt
  have hMl := hM.lt
  have B1 := (Below.refl _ w).alloc (Nat.le_refl _) (.cells (nums .u8 32 fun _ => 0) 38)
  have R1 := Lib.hid (At.new 38 w (nums .u8 32 fun _ => 0))
  have T1 := Lib.hid (hT.below hlt B1)
  have M1 := Lib.hid (hM.below B1 hMl)
  have HB1 := Lib.hid B1
  have HL := Lib.hid (decide_eq_true ho)
  have hz1 : (w.alloc (.cells (nums .u8 32 fun _ => 0) 38)).heap.size = w.heap.size + 1 := by simp
  clear hM hT B1 ho
  go_enter Tryd.func20, Tryd.ntmps20
  go_wp2_with fail
  generalize (w.alloc (.cells (nums .u8 32 fun _ => 0) 38)) = w1 at *
  refine (made_any M is os w1 M1.out).mono ?_
  rintro e w' ⟨rfl, rfl⟩
  rw [HL.out]
  go_wp2_with fail
  refine (inner_sum M is os hi w1 T1.out M1.out).mono ?_
  rintro e w2 ⟨rfl, hB2⟩
  have hs2 := hB2.size
  have B3 : Below w1.heap.size w1 ((w2.alloc (.cells (nums .u8 32 fun _ => 0) 38)).setRow w2.heap.size (nums .u8 32 (bf (sha is)))) := below_row (hB2.alloc hs2 _) hs2 _
  have H2 := Lib.hid (At.new 38 w2 (nums .u8 32 fun _ => 0))
  have H3 := Lib.hid (show At 38 ((w2.alloc (.cells (nums .u8 32 fun _ => 0) 38)).setRow w2.heap.size (nums .u8 32 (bf (sha is)))) w2.heap.size (nums .u8 32 (bf (sha is))) from H2.out.row)
  have M3 := Lib.hid (M1.out.below B3 (by omega))
  have T3 := Lib.hid (T1.out.below (by omega) B3)
  have R3 := Lib.hid (R1.out.below (by omega) B3)
  have D3 := Lib.hid (HB1.out.trans (B3.mono HB1.out.size))
  have hz3 : ((w2.alloc (.cells (nums .u8 32 fun _ => 0) 38)).setRow w2.heap.size (nums .u8 32 (bf (sha is)))).heap.size = w2.heap.size + 1 := by rw [size_setRow]; simp
  clear hB2 B3 M1 T1 R1 HB1
  go_wp2_with (refine store_hash H2.out rfl rfl rfl rfl ?_)
  generalize ((w2.alloc (.cells (nums .u8 32 fun _ => 0) 38)).setRow w2.heap.size (nums .u8 32 (bf (sha is)))) = w3 at *
  have hz3a : w2.heap.size < w3.heap.size := by omega
  clear hz3
  refine (outer_copy M is os w3 M3.out).mono ?_
  rintro e w4 ⟨rfl, hS4, hB4, hs4⟩
  have H4 := Lib.hid (H3.out.below (by omega) hB4)
  have S4 := Lib.hid hS4
  have T4 := Lib.hid (T3.out.below (by omega) hB4)
  have R4 := Lib.hid (R3.out.below (by omega) hB4)
  have D4 := Lib.hid (D3.out.trans (hB4.mono D3.out.size))
  clear hS4 hB4 T3 R3 D3 M3 H3 H2
  obtain ⟨S, hS⟩ : ∃ S, w3.heap.size = S := ⟨_, rfl⟩
  obtain ⟨G, hG⟩ : ∃ G, w2.heap.size = G := ⟨_, rfl⟩
  rw [hS] at S4 hs4 hz3a ⊢
  rw [hG] at H4 hs2 hz3a ⊢
  clear hS hG
  have hwG : w.heap.size < G := by omega
  have HW := Lib.hid (write_hash S G os is (by omega) (by omega) hol w4 T4.out S4.out H4.out)
  clear S4 H4 hs2 hz1
  go_wp2_with fail
  refine HW.out.mono ?_
  rintro e w5 ⟨rfl, hS5, hG5⟩
  have hs5 := hG5.size
  have hB5 := grown_below hG5 (B := S) (Nat.le_refl _) (by omega)
  have HU := Lib.hid (sum_any S (os ++ sha is) (by rw [List.length_append, sha_length]; omega) w5 (T4.out.below (by omega) hB5) hS5)
  have R5 := Lib.hid (R4.out.below (by omega) hB5)
  have D5 := Lib.hid (D4.out.trans (hB5.mono (by omega)))
  clear hS5 hG5 hB5 T4 R4 D4 HW hs5 hs4
  go_wp2_with fail
  refine HU.out.mono ?_
  rintro e w6 ⟨rfl, hB6⟩
  have hs6 : w.heap.size ≤ w5.heap.size := D5.out.size
  have R6 := Lib.hid (R5.out.below R5.out.lt hB6)
  have D6 := Lib.hid (D5.out.trans (hB6.mono D5.out.size))
  clear hB6 HU R5 D5
  go_wp2_with (refine store_hash R6.out rfl rfl rfl rfl ?_)
  exact bodyPost_ret (v := .agg (nums .u8 32 (bf (sha (os ++ sha is))))) (results_hash rfl _ _ w.heap.size _ rfl R6.out.row) rfl ⟨rfl, below_row D6.out (Nat.le_refl _) _⟩
theorem mtag_any (M : Nat) (ks xs : List Int) (hx : xs.length ≤ 10000000000) (w : World) (hT : Tabs w) (hM : MacAt w M (pad 54 ks ++ xs) (pad 92 ks)) :
    Calls Tryd.prog 20 #[.pointer (some ⟨M, 0, none⟩)] w fun e w' => e = .returned (.agg (nums .u8 32 (bf (tag ks xs)))) ∧ Below w.heap.size w w' :=
  msum_any M _ _ (by rw [List.length_append, pad_length]; omega) (by rw [pad_length]; decide) (by rw [pad_length]; decide) w hT hM
theorem built_hash : Tryd.prog.built 38 [] = some (nums .u8 32 fun _ => 0) := by kernel_rfl
/-- 'api.Hash{}' -/
theorem build_hash {ops : Array Oper} {rest : List Oper} {o : Oper} {a : Act} {w : World} {Q : Exit → Act → World → Prop}
    (hgd : o.guard = none) (ho : o.op = .build 38 #[]) (h : wpList Tryd.prog ops Q rest (a.put o.dst (.agg (nums .u8 32 fun _ => 0))) w) : wpList Tryd.prog ops Q (o :: rest) a w := by
  have e : ((#[] : Array (Nat × Operand)).map fun (i, x) => (i, a.eval x)).toList = [] := by simp
  refine wpList_build hgd 38 #[] ho ?_ ?_
  · rw [e, built_hash]; rfl
  · rw [e, built_hash]; exact h
theorem msum_none (M : Nat) (is : List Int) (w : World) (hM : MacAt w M is []) :
    Calls Tryd.prog 20 #[.pointer (some ⟨M, 0, none⟩)] w fun e w' => e = .returned (.agg (nums .u8 32 fun _ => 0)) ∧ Below w.heap.size w w' := by
  have hzh := (zero_of_info zero_hash).1
  have hMl := hM.lt
  have B1 := (Below.refl _ w).alloc (Nat.le_refl _) (.cells (nums .u8 32 fun _ => 0) 38)
  have R1 := Lib.hid (At.new 38 w (nums .u8 32 fun _ => 0))
  have M1 := Lib.hid (hM.below B1 hMl)
  have HB1 := Lib.hid B1
  clear hM B1
  go_enter Tryd.func20, Tryd.ntmps20
  go_wp2_with fail
  refine (made_any M is [] _ M1.out).mono ?_
  rintro e w' ⟨rfl, rfl⟩
  rw [show decide (0 < ([] : List Int).length) = false from rfl]
  go_wp2_with (first | (refine build_hash rfl rfl ?_) | (refine store_hash R1.out rfl rfl rfl rfl ?_))
  exact bodyPost_ret (v := .agg (nums .u8 32 fun _ => 0)) (results_hash rfl _ _ w.heap.size _ rfl R1.out.row) rfl ⟨rfl, below_row HB1.out (Nat.le_refl _) _⟩
theorem msum_nil (w : World) :
    Calls Tryd.prog 20 #[.pointer none] w fun e w' => e = .returned (.agg (nums .u8 32 fun _ => 0)) ∧ Below w.heap.size w w' := by
  have hzh := (zero_of_info zero_hash).1
  have B1 := (Below.refl _ w).alloc (Nat.le_refl _) (.cells (nums .u8 32 fun _ => 0) 38)
  have R1 := Lib.hid (At.new 38 w (nums .u8 32 fun _ => 0))
  have HB1 := Lib.hid B1
  clear B1
  go_enter Tryd.func20, Tryd.ntmps20
  go_wp2_with fail
  refine (made_nil _).mono ?_
  rintro e w' ⟨rfl, rfl⟩
  go_wp2_with (first | (refine build_hash rfl rfl ?_) | (refine store_hash R1.out rfl rfl rfl rfl ?_))
  exact bodyPost_ret (v := .agg (nums .u8 32 fun _ => 0)) (results_hash rfl _ _ w.heap.size _ rfl R1.out.row) rfl ⟨rfl, below_row HB1.out (Nat.le_refl _) _⟩
set_option maxRecDepth 100000 in
set_option maxHeartbeats 2000000 in
theorem mof_any (A : Option Addr) (ks : List Int) (c : Nat) (B : Option Addr) (xs : List Int) (d : Nat) (hc : ks.length ≤ c) (hr : ks.length ≤ 1000000) (hd : xs.length ≤ d) (hx : xs.length ≤ 1000000) (w : World) (hT : Tabs w)
    (ha : Bys8 w.heap.size w (.slice A ks.length c) ks) (hb : Bys8 w.heap.size w (.slice B xs.length d) xs) :
    Calls Tryd.prog 19 #[.slice A ks.length c, .slice B xs.length d] w fun e w' => e = .returned (.agg (nums .u8 32 (bf (tag ks xs)))) ∧ Below w.heap.size w w' := by
  have hzh := (zero_of_info zero_hash).1
  have hlt := hT.lt
  have B1 := (Below.refl _ w).alloc (Nat.le_refl _) (.cells (nums .u8 32 fun _ => 0) 38)
  have R1 := Lib.hid (At.new 38 w (nums .u8 32 fun _ => 0))
  have HN := Lib.hid (new_any A ks c hc (by omega) _ (hT.below hlt B1) ((ha.below B1).mono B1.size))
  have T1 := Lib.hid (hT.below hlt B1)
  have HB1 := Lib.hid B1
  have HXS := Lib.hid hb
  have hz1 : (w.alloc (.cells (nums .u8 32 fun _ => 0) 38)).heap.size = w.heap.size + 1 := by simp
  clear hT B1 ha hb
  go_enter Tryd.func19, Tryd.ntmps19
  go_wp2_with fail
  generalize (w.alloc (.cells (nums .u8 32 fun _ => 0) 38)) = w1 at *
  refine HN.out.mono ?_
  rintro e w2 ⟨M, rfl, hM, hA2, hB2⟩
  have hs2 := hB2.size
  have A2 := Lib.hid hA2
  have T2 := Lib.hid (T1.out.below (by omega) hB2)
  have R2 := Lib.hid (R1.out.below (by omega) hB2)
  have D2 := Lib.hid (HB1.out.trans (hB2.mono HB1.out.size))
  clear hA2 hB2 HN T1 R1 HB1
  go_wp2_with fail
  refine (mwrite_any M (pad 54 ks) (pad 92 ks) xs B d (by omega) (by rw [pad_length]; decide) (by rw [pad_length]; omega) hd w2 T2.out A2.out (fun X hX => (((HXS.out.below D2.out)).apart (by omega) hX).mono (by omega)) HXS.out.1).mono ?_
  rintro e w3 ⟨rfl, hA3, hG3⟩
  have hs3 := hG3.size
  have hB3 := grown_below hG3 (B := w1.heap.size) hM hs2
  have A3 := Lib.hid hA3
  have T3 := Lib.hid (T2.out.below (by omega) hB3)
  have R3 := Lib.hid (R2.out.below (by omega) hB3)
  have D3 := Lib.hid (D2.out.trans (hB3.mono (by omega)))
  clear hA3 hG3 hB3 A2 T2 R2 D2
  go_wp2_with fail
  refine (mtag_any M ks xs (by omega) w3 T3.out A3.out).mono ?_
  rintro e w4 ⟨rfl, hB4⟩
  have R4 := Lib.hid (R3.out.below (by omega) hB4)
  have D4 := Lib.hid (D3.out.trans (hB4.mono D3.out.size))
  clear hB4 A3 T3 R3 D3
  go_wp2_with (refine store_hash R4.out rfl rfl rfl rfl ?_)
  exact bodyPost_ret (v := .agg (nums .u8 32 (bf (tag ks xs)))) (results_hash rfl _ _ w.heap.size _ rfl R4.out.row) rfl ⟨rfl, below_row D4.out (Nat.le_refl _) _⟩
end Go.Proofs.YtkhhejkemkldgaaDoor
