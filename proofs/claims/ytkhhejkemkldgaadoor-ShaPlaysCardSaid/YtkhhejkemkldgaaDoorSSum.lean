/- The contracts of Sum, Of, Len, Copy. -/
import Derived.Test.YtkhhejkemkldgaaDoorSWrite
import Derived.Test.YtkhhejkemkldgaaDoorSPad
import Derived.Test.YtkhhejkemkldgaaDoorSJoin
set_option linter.unusedVariables false
namespace Go.Proofs.YtkhhejkemkldgaaDoor
open Go.RowKit Go.Shelf
theorem cells_of_cell {W : World} {b o : Nat} {v : Value} (h : W.cell? ⟨b, o, none⟩ = some v) : ∃ p : Obj, W.heap[b]? = some p ∧ p.isCells = true := by
  cases hb : W.heap[b]? with
  | none => simp [World.cell?, hb] at h
  | some p => cases p <;> simp_all [World.cell?, Obj.isCells]
theorem cell_of_heap {W X : World} {b o : Nat} (h : X.heap[b]? = W.heap[b]?) : X.cell? ⟨b, o, none⟩ = W.cell? ⟨b, o, none⟩ := by simp [World.cell?, h]
theorem Bys8.keeps {S n : Nat} {W X : World} {A : Option Addr} {m c : Nat} {xs : List Int} (h : Bys8 n W (.slice A m c) xs) (hne : ∀ b o, A = some ⟨b, o, none⟩ → b ≠ S) (hk : KeepsC S W X) : Bys8 n X (.slice A m c) xs := by
  obtain ⟨hr, h⟩ := h
  refine ⟨hr, ?_⟩
  rcases h with h | ⟨b, off, cap, e, hb, hc⟩
  · exact .inl h
  · refine .inr ⟨b, off, cap, e, hb, fun j hj => ?_⟩
    cases e
    obtain ⟨p, hp, hpc⟩ := cells_of_cell (hc j hj)
    exact (cell_of_heap ((hk.same b p (hne b off rfl) hp hpc).trans hp.symm)).trans (hc j hj)
theorem Bys8.lt {n : Nat} {W : World} {A : Option Addr} {m c : Nat} {xs : List Int} (h : Bys8 n W (.slice A m c) xs) (h0 : xs ≠ []) : ∀ b o, A = some ⟨b, o, none⟩ → b < n := by
  intro b o e
  rcases h.2 with ⟨h1, _⟩ | ⟨b', off, cap, e2, hb, _⟩
  · exact absurd h1 h0
  · cases e2; cases e; exact hb
/-- What lies below n, and S is not below n. -/
theorem Bys8.apart {n S : Nat} {W X : World} {A : Option Addr} {m c : Nat} {xs : List Int} (h : Bys8 n W (.slice A m c) xs) (hS : n ≤ S) (hk : KeepsC S W X) : Bys8 n X (.slice A m c) xs := by
  obtain ⟨hr, h⟩ := h
  refine ⟨hr, ?_⟩
  rcases h with h | ⟨b, off, cap, e, hb, hc⟩
  · exact .inl h
  · refine .inr ⟨b, off, cap, e, hb, fun j hj => ?_⟩
    cases e
    obtain ⟨p, hp, hpc⟩ := cells_of_cell (hc j hj)
    exact (cell_of_heap ((hk.same b p (by omega) hp hpc).trans hp.symm)).trans (hc j hj)
theorem shaC_one (A : List Nat) (f : Nat → Int) (n : Int) : (shaC A f n).all (·.oneCell') = true := by
  rw [Array.all_eq_true_iff_forall_mem]
  intro v hv
  obtain ⟨i, hi⟩ := Array.mem_iff_getElem?.1 hv
  rw [shaC_get] at hi
  split at hi
  · cases hi; rfl
  · split at hi
    · cases hi; rfl
    · split at hi
      · cases hi; rfl
      · cases hi
theorem size_sha (A : List Nat) (f : Nat → Int) (n : Int) : (Tryd.prog.info? 32).map (·.size) = some (shaC A f n).size := by rw [shaC_size]; kernel_rfl
theorem zero_sha : (Tryd.prog.info? 32).map (fun i => (i.zero, i.size)) = some (some (.agg (shaC [0, 0, 0, 0, 0, 0, 0, 0] (fun _ => 0) 0)), 73) := by kernel_rfl
theorem ShaInL.rangeAll {W : World} {Z : Loc} {A : List Nat} {f : Nat → Int} {n : Int} (h : ShaInL W Z A f n) : W.rangeAt Z.S Z.o (shaC A f n).toList := fun j v hv => by
  have hj : j < 73 := by have := (List.getElem?_eq_some_iff.1 hv).1; rwa [Array.length_toList, shaC_size] at this
  rw [Array.getElem?_toList] at hv
  rw [At.cell h, Z.at _ _ _ _ hj]; exact hv
theorem load_shaL {ops : Array Oper} {rest : List Oper} {o : Oper} {a : Act} {w : World} {Q : Exit → Act → World → Prop} {x : Operand} {Z : Loc} {A : List Nat} {f : Nat → Int} {n : Int} (hg : ShaInL w Z A f n)
    (hgd : o.guard = none) (ho : o.op = .load 32 x) (hx : a.eval x = .pointer (some ⟨Z.S, Z.o, none⟩))
    (h : wpList Tryd.prog ops Q rest (a.put o.dst (.agg (shaC A f n))) w) : wpList Tryd.prog ops Q (o :: rest) a w := by
  have := wpList_load_mid (P := Tryd.prog) (Q := Q) hgd 32 x ho Z.S Z.o hx _ _ hg.rangeAll Tryd.underlying32 rfl (by rw [Array.length_toList]; exact size_sha A f n) (ops := ops) (rest := rest)
  rw [Array.toArray_toList] at this
  exact this h
theorem store_sha {ops : Array Oper} {rest : List Oper} {o : Oper} {a : Act} {w : World} {Q : Exit → Act → World → Prop} {x y : Operand} {g : Nat} {A A' : List Nat} {f f' : Nat → Int} {n n' : Int} (hg : ShaIn w g A' f' n')
    (hgd : o.guard = none) (ho : o.op = .store 32 x y) (hx : a.eval x = .pointer (some ⟨g, 0, none⟩)) (hy : a.eval y = .agg (shaC A f n))
    (h : wpList Tryd.prog ops Q rest (a.put o.dst undef) (w.setRow g (shaC A f n))) : wpList Tryd.prog ops Q (o :: rest) a w :=
  wpList_store_row hgd 32 x y ho g (shaC A f n) hx hy _ _ hg (size_sha A f n) (by rw [shaC_size, shaC_size]) (shaC_one A f n) h
theorem shaAt_zero {W : World} {S : Nat} (h : ShaIn W S [0, 0, 0, 0, 0, 0, 0, 0] (fun _ => 0) 0) : ShaAt W S [] := ⟨(fun x hx => by cases hx), h⟩
theorem ShaAt.below {W X : World} {S B : Nat} {xs : List Int} (h : ShaAt W S xs) (hB : Below B W X) (hS : S < B) : ShaAt X S xs := ⟨h.1, At.below h.2 hS hB⟩
theorem ShaAt.lt {W : World} {S : Nat} {xs : List Int} (h : ShaAt W S xs) : S < W.heap.size := At.lt h.2
theorem grown_below {W X : World} {S B : Nat} (h : W.grownBy X (some S)) (hS : B ≤ S) (hB : B ≤ W.heap.size) : Below B W X := ⟨h.os, h.tape, h.output, h.size, fun k hk => h.block k (by omega) (fun e => by injection e; omega)⟩
theorem sha_says (xs : List Int) : joined (plus initial (adds (xs ++ padding xs.length) ((xs ++ padding xs.length).length / 64))) = sha xs := rfl
theorem sha_bytes (xs : List Int) : Bytes (sha xs) := joined_bytes _
theorem padding_bytes (n : Nat) (h : n ≤ 1000000000000) : Bytes (padding n) := fun x hx => by
  rw [← padding_range n h] at hx
  simp only [List.mem_map, List.mem_range] at hx
  obtain ⟨j, _, rfl⟩ := hx
  exact pf_bd n 8 j
set_option maxRecDepth 100000 in
set_option maxHeartbeats 2000000 in
theorem sumL_any (Z : Loc) (xs : List Int) (hr : xs.length ≤ 100000000000) (w : World) (hT : Tabs w) (hX : ShaAtL w Z xs) :
    Calls Tryd.prog 10 #[.pointer (some ⟨Z.S, Z.o, none⟩)] w fun e w' => e = .returned (.agg (nums .u8 32 (bf (sha xs)))) ∧ Below w.heap.size w w' := by
  have hzh := (zero_of_info zero_hash).1
  have hz := (zero_of_info zero_sha).1
  have hlt := hT.lt
  have hZ : ((w.alloc (.cells (nums .u8 32 fun _ => 0) 38)).alloc (.cells (shaC [0, 0, 0, 0, 0, 0, 0, 0] (fun _ => 0) 0) 32)).heap.size = w.heap.size + 2 := by simp
  have Z1 : ShaIn ((w.alloc (.cells (nums .u8 32 fun _ => 0) 38)).alloc (.cells (shaC [0, 0, 0, 0, 0, 0, 0, 0] (fun _ => 0) 0) 32)) (w.heap.size + 1) [0, 0, 0, 0, 0, 0, 0, 0] (fun _ => 0) 0 := by
    have := At.new 32 (w.alloc (.cells (nums .u8 32 fun _ => 0) 38)) (shaC [0, 0, 0, 0, 0, 0, 0, 0] (fun _ => 0) 0)
    rw [World.size_alloc] at this; exact this
  have R1 := (At.new 38 w (nums .u8 32 fun _ => 0)).alloc (.cells (shaC [0, 0, 0, 0, 0, 0, 0, 0] (fun _ => 0) 0) 32)
  have B1 := ((Below.refl _ w).alloc (Nat.le_refl _) (.cells (nums .u8 32 fun _ => 0) 38)).alloc (by simp) (.cells (shaC [0, 0, 0, 0, 0, 0, 0, 0] (fun _ => 0) 0) 32)
  have hS : Z.S < w.heap.size := At.lt hX.2
  have X1 := Lib.hid (show ShaInL ((w.alloc (.cells (nums .u8 32 fun _ => 0) 38)).alloc (.cells (shaC [0, 0, 0, 0, 0, 0, 0, 0] (fun _ => 0) 0) 32)) Z _ _ _ from At.alloc (At.alloc hX.2 _) _)
  have S2 := Lib.hid (show ShaAt (((w.alloc (.cells (nums .u8 32 fun _ => 0) 38)).alloc (.cells (shaC [0, 0, 0, 0, 0, 0, 0, 0] (fun _ => 0) 0) 32)).setRow (w.heap.size + 1) (shaC (adds xs (xs.length / 64)) (fun j => xs.getD (64 * (xs.length / 64) + j) 0) xs.length)) (w.heap.size + 1) xs from ⟨hX.1, At.row Z1⟩)
  have R2 := Lib.hid (R1.rowOther (shaC (adds xs (xs.length / 64)) (fun j => xs.getD (64 * (xs.length / 64) + j) 0) xs.length) (show w.heap.size ≠ w.heap.size + 1 by omega))
  have B2 := Lib.hid (below_row B1 (show w.heap.size ≤ w.heap.size + 1 by omega) (shaC (adds xs (xs.length / 64)) (fun j => xs.getD (64 * (xs.length / 64) + j) 0) xs.length))
  have T2 := Lib.hid (hT.below hlt B2.out)
  have c72 := S2.out.2.cell72
  have hZ2 := size_setRow ((w.alloc (.cells (nums .u8 32 fun _ => 0) 38)).alloc (.cells (shaC [0, 0, 0, 0, 0, 0, 0, 0] (fun _ => 0) 0) 32)) (w.heap.size + 1) (shaC (adds xs (xs.length / 64)) (fun j => xs.getD (64 * (xs.length / 64) + j) 0) xs.length)
  rw [hZ] at hZ2
  have HZ1 := Lib.hid Z1
  clear hX hT B1 R1 Z1 hZ
  go_enter Tryd.func10, Tryd.ntmps10
  go_upto_region 3 with (fail)
  go_wp2_with (first | (refine load_shaL X1.out rfl rfl rfl ?_) | (refine store_sha HZ1.out rfl rfl rfl rfl ?_; generalize ((w.alloc (.cells (nums .u8 32 fun _ => 0) 38)).alloc (.cells (shaC [0, 0, 0, 0, 0, 0, 0, 0] (fun _ => 0) 0) 32)).setRow (w.heap.size + 1) (shaC (adds xs (xs.length / 64)) (fun j => xs.getD (64 * (xs.length / 64) + j) 0) xs.length) = w2 at *; clear X1 HZ1))
  go_wp2_with fail
  refine (padding_any xs.length (by omega) _).mono ?_
  rintro e w3 ⟨g, c, rfl, hg, hgc, hb8, hB3⟩
  have hw3 := hB3.size
  have T3 := (T2.out.below T2.out.lt hB3)
  have S3 := S2.out.below hB3 (by omega)
  have G3 := R2.out.below (by omega) hB3
  have D3 := B2.out.trans (hB3.mono B2.out.size)
  have hpl := padding_length xs.length
  have hpz : padZeros xs.length < 64 := Nat.mod_lt _ (by decide)
  have HB8 := Lib.hid hb8
  have T3' := Lib.hid T3
  have S3' := Lib.hid S3
  have G3' := Lib.hid G3
  have D3' := Lib.hid D3
  have HPL := Lib.hid hpl
  have hple : (padding xs.length).length ≤ 100 := by omega
  clear hb8 T3 S3 G3 D3 hB3 T2 S2 R2 B2 hpl
  go_wp2_with fail
  refine (write_any (w.heap.size + 1) xs (padding xs.length) (some ⟨g, 0, none⟩) c (by omega) (by omega) hgc w3 T3'.out S3'.out (fun X hX => HB8.out.keeps (fun b o e => by cases e; omega) hX) (padding_bytes _ (by omega))).mono ?_
  rintro e w4 ⟨rfl, hX4, hG4⟩
  have hw4 := hG4.size
  have hB4 := grown_below hG4 (B := w.heap.size + 1) (by omega) (by omega)
  have T4 := T3'.out.below (by omega) hB4
  have R4 := G3'.out.below (by omega) hB4
  have D4 := D3'.out.trans (hB4.mono (by omega))
  have HX4 := Lib.hid hX4
  have HT4 := Lib.hid T4
  have HR4 := Lib.hid R4
  have HD4 := Lib.hid D4
  clear hX4 hG4 hB4 T4 R4 D4 T3' S3' G3' D3' HB8
  go_wp2_with fail
  refine (current_any (w.heap.size + 1) _ _ _ (adds_words _ _) w4 HT4.out HX4.out.2).mono ?_
  rintro e w5 ⟨rfl, hB5⟩
  have R5 := HR4.out.below (by omega) hB5
  have D5 := HD4.out.trans (hB5.mono HD4.out.size)
  have hw5 := hB5.size
  have HR5 := Lib.hid R5
  have HD5 := Lib.hid D5
  clear R5 D5 hB5
  go_wp2_with fail
  refine (join_any _ (plus_words _ _) w5).mono ?_
  rw [← List.length_append, sha_says]
  rintro e w6 ⟨rfl, hB6⟩
  have R6 := HR5.out.below (by omega) hB6
  have D6 := HD5.out.trans (hB6.mono HD5.out.size)
  have HR6 := Lib.hid R6
  have HD6 := Lib.hid D6
  clear R6 D6 hB6
  go_wp2_with (refine store_hash HR6.out rfl rfl rfl rfl ?_)
  exact bodyPost_ret (v := .agg (nums .u8 32 (bf (sha xs)))) (results_hash rfl _ _ w.heap.size _ rfl HR6.out.row) rfl ⟨rfl, below_row HD6.out (Nat.le_refl _) _⟩
theorem sum_any (S : Nat) (xs : List Int) (hr : xs.length ≤ 100000000000) (w : World) (hT : Tabs w) (hX : ShaAt w S xs) :
    Calls Tryd.prog 10 #[.pointer (some ⟨S, 0, none⟩)] w fun e w' => e = .returned (.agg (nums .u8 32 (bf (sha xs)))) ∧ Below w.heap.size w w' :=
  sumL_any (Loc.sha S) xs hr w hT (shaAt_plain.2 hX)
set_option maxRecDepth 100000 in
set_option maxHeartbeats 2000000 in
theorem sum_nil (w : World) (hT : Tabs w) :
    Calls Tryd.prog 10 #[.pointer none] w fun e w' => e = .returned (.agg (nums .u8 32 (bf (sha [])))) ∧ Below w.heap.size w w' := by
  have hzh := (zero_of_info zero_hash).1
  have hz := (zero_of_info zero_sha).1
  have hlt := hT.lt
  have hZ : ((w.alloc (.cells (nums .u8 32 fun _ => 0) 38)).alloc (.cells (shaC [0, 0, 0, 0, 0, 0, 0, 0] (fun _ => 0) 0) 32)).heap.size = w.heap.size + 2 := by simp
  have Z1 : ShaIn ((w.alloc (.cells (nums .u8 32 fun _ => 0) 38)).alloc (.cells (shaC [0, 0, 0, 0, 0, 0, 0, 0] (fun _ => 0) 0) 32)) (w.heap.size + 1) [0, 0, 0, 0, 0, 0, 0, 0] (fun _ => 0) 0 := by
    have := At.new 32 (w.alloc (.cells (nums .u8 32 fun _ => 0) 38)) (shaC [0, 0, 0, 0, 0, 0, 0, 0] (fun _ => 0) 0)
    rw [World.size_alloc] at this; exact this
  have R1 := (At.new 38 w (nums .u8 32 fun _ => 0)).alloc (.cells (shaC [0, 0, 0, 0, 0, 0, 0, 0] (fun _ => 0) 0) 32)
  have B1 := ((Below.refl _ w).alloc (Nat.le_refl _) (.cells (nums .u8 32 fun _ => 0) 38)).alloc (by simp) (.cells (shaC [0, 0, 0, 0, 0, 0, 0, 0] (fun _ => 0) 0) 32)
  have S2 := Lib.hid (shaAt_zero Z1)
  have R2 := Lib.hid R1
  have B2 := Lib.hid B1
  have T2 := Lib.hid (hT.below hlt B1)
  have hZ2 := hZ
  obtain ⟨xs, hxs⟩ : ∃ xs : List Int, ([] : List Int) = xs := ⟨_, rfl⟩
  rw [hxs] at S2
  have c72 : World.cell? ((w.alloc (.cells (nums .u8 32 fun _ => 0) 38)).alloc (.cells (shaC [0, 0, 0, 0, 0, 0, 0, 0] (fun _ => 0) 0) 32)) ⟨w.heap.size + 1, 72, none⟩ = some (.int .u64 (xs.length : Nat)) := by rw [← hxs]; exact Z1.cell72
  have hr : xs.length ≤ 100000000000 := by rw [← hxs]; exact Nat.zero_le _
  rw [hxs]
  clear hT B1 R1 Z1 hZ hxs
  go_enter Tryd.func10, Tryd.ntmps10
  go_upto_region 4 with (fail)
  generalize ((w.alloc (.cells (nums .u8 32 fun _ => 0) 38)).alloc (.cells (shaC [0, 0, 0, 0, 0, 0, 0, 0] (fun _ => 0) 0) 32)) = w2 at *
  go_wp2_with fail
  refine (padding_any xs.length (by omega) _).mono ?_
  rintro e w3 ⟨g, c, rfl, hg, hgc, hb8, hB3⟩
  have hw3 := hB3.size
  have T3 := (T2.out.below T2.out.lt hB3)
  have S3 := S2.out.below hB3 (by omega)
  have G3 := R2.out.below (by omega) hB3
  have D3 := B2.out.trans (hB3.mono B2.out.size)
  have hpl := padding_length xs.length
  have hpz : padZeros xs.length < 64 := Nat.mod_lt _ (by decide)
  have HB8 := Lib.hid hb8
  have T3' := Lib.hid T3
  have S3' := Lib.hid S3
  have G3' := Lib.hid G3
  have D3' := Lib.hid D3
  have HPL := Lib.hid hpl
  have hple : (padding xs.length).length ≤ 100 := by omega
  clear hb8 T3 S3 G3 D3 hB3 T2 S2 R2 B2 hpl
  go_wp2_with fail
  refine (write_any (w.heap.size + 1) xs (padding xs.length) (some ⟨g, 0, none⟩) c (by omega) (by omega) hgc w3 T3'.out S3'.out (fun X hX => HB8.out.keeps (fun b o e => by cases e; omega) hX) (padding_bytes _ (by omega))).mono ?_
  rintro e w4 ⟨rfl, hX4, hG4⟩
  have hw4 := hG4.size
  have hB4 := grown_below hG4 (B := w.heap.size + 1) (by omega) (by omega)
  have T4 := T3'.out.below (by omega) hB4
  have R4 := G3'.out.below (by omega) hB4
  have D4 := D3'.out.trans (hB4.mono (by omega))
  have HX4 := Lib.hid hX4
  have HT4 := Lib.hid T4
  have HR4 := Lib.hid R4
  have HD4 := Lib.hid D4
  clear hX4 hG4 hB4 T4 R4 D4 T3' S3' G3' D3' HB8
  go_wp2_with fail
  refine (current_any (w.heap.size + 1) _ _ _ (adds_words _ _) w4 HT4.out HX4.out.2).mono ?_
  rintro e w5 ⟨rfl, hB5⟩
  have R5 := HR4.out.below (by omega) hB5
  have D5 := HD4.out.trans (hB5.mono HD4.out.size)
  have hw5 := hB5.size
  have HR5 := Lib.hid R5
  have HD5 := Lib.hid D5
  clear R5 D5 hB5
  go_wp2_with fail
  refine (join_any _ (plus_words _ _) w5).mono ?_
  rw [← List.length_append, sha_says]
  rintro e w6 ⟨rfl, hB6⟩
  have R6 := HR5.out.below (by omega) hB6
  have D6 := HD5.out.trans (hB6.mono HD5.out.size)
  have HR6 := Lib.hid R6
  have HD6 := Lib.hid D6
  clear R6 D6 hB6
  go_wp2_with (refine store_hash HR6.out rfl rfl rfl rfl ?_)
  exact bodyPost_ret (v := .agg (nums .u8 32 (bf (sha xs)))) (results_hash rfl _ _ w.heap.size _ rfl HR6.out.row) rfl ⟨rfl, below_row HD6.out (Nat.le_refl _) _⟩
set_option maxRecDepth 100000 in
set_option maxHeartbeats 2000000 in
theorem of_any (Ab : Option Addr) (ys : List Int) (cb : Nat) (hr : ys.length ≤ 100000000000) (hcb : ys.length ≤ cb) (w : World) (hT : Tabs w) (hb : Bys8 w.heap.size w (.slice Ab ys.length cb) ys) :
    Calls Tryd.prog 14 #[.slice Ab ys.length cb] w fun e w' => e = .returned (.agg (nums .u8 32 (bf (sha ys)))) ∧ Below w.heap.size w w' := by
  have hzh := (zero_of_info zero_hash).1
  have hz := (zero_of_info zero_sha).1
  have hlt := hT.lt
  have hZ : ((w.alloc (.cells (nums .u8 32 fun _ => 0) 38)).alloc (.cells (shaC [0, 0, 0, 0, 0, 0, 0, 0] (fun _ => 0) 0) 32)).heap.size = w.heap.size + 2 := by simp
  have Z1 : ShaIn ((w.alloc (.cells (nums .u8 32 fun _ => 0) 38)).alloc (.cells (shaC [0, 0, 0, 0, 0, 0, 0, 0] (fun _ => 0) 0) 32)) (w.heap.size + 1) [0, 0, 0, 0, 0, 0, 0, 0] (fun _ => 0) 0 := by
    have := At.new 32 (w.alloc (.cells (nums .u8 32 fun _ => 0) 38)) (shaC [0, 0, 0, 0, 0, 0, 0, 0] (fun _ => 0) 0)
    rw [World.size_alloc] at this; exact this
  have R1 := (At.new 38 w (nums .u8 32 fun _ => 0)).alloc (.cells (shaC [0, 0, 0, 0, 0, 0, 0, 0] (fun _ => 0) 0) 32)
  have B1 := ((Below.refl _ w).alloc (Nat.le_refl _) (.cells (nums .u8 32 fun _ => 0) 38)).alloc (by simp) (.cells (shaC [0, 0, 0, 0, 0, 0, 0, 0] (fun _ => 0) 0) 32)
  have S2 := Lib.hid (shaAt_zero Z1)
  have R2 := Lib.hid R1
  have B2 := Lib.hid B1
  have T2 := Lib.hid (hT.below hlt B1)
  have HB := Lib.hid (hb.below B1)
  have HY := Lib.hid hb.1
  clear hT B1 R1 Z1 hb
  go_enter Tryd.func14, Tryd.ntmps14
  go_wp2_with fail
  generalize ((w.alloc (.cells (nums .u8 32 fun _ => 0) 38)).alloc (.cells (shaC [0, 0, 0, 0, 0, 0, 0, 0] (fun _ => 0) 0) 32)) = w2 at *
  refine (write_any (w.heap.size + 1) [] ys Ab cb (by omega) (by simp; omega) hcb w2 T2.out S2.out (fun X hX => (HB.out.apart (by omega) hX).mono (by omega)) HY.out).mono ?_
  rintro e w4 ⟨rfl, hX4, hG4⟩
  rw [List.nil_append] at hX4
  have hw4 := hG4.size
  have hB4 := grown_below hG4 (B := w.heap.size + 1) (by omega) (by omega)
  have T4 := T2.out.below (by omega) hB4
  have R4 := R2.out.below (by omega) hB4
  have D4 := B2.out.trans (hB4.mono (by omega))
  have HX4 := Lib.hid hX4
  have HT4 := Lib.hid T4
  have HR4 := Lib.hid R4
  have HD4 := Lib.hid D4
  clear hX4 hG4 hB4 T4 R4 D4 T2 S2 R2 B2 HB
  go_wp2_with fail
  refine (sum_any (w.heap.size + 1) ys hr w4 HT4.out HX4.out).mono ?_
  rintro e w5 ⟨rfl, hB5⟩
  have R5 := HR4.out.below (by omega) hB5
  have D5 := HD4.out.trans (hB5.mono HD4.out.size)
  have HR6 := Lib.hid R5
  have HD6 := Lib.hid D5
  clear R5 D5 hB5
  go_wp2_with (refine store_hash HR6.out rfl rfl rfl rfl ?_)
  exact bodyPost_ret (v := .agg (nums .u8 32 (bf (sha ys)))) (results_hash rfl _ _ w.heap.size _ rfl HR6.out.row) rfl ⟨rfl, below_row HD6.out (Nat.le_refl _) _⟩
theorem lenL_any (Z : Loc) (xs : List Int) (w : World) (hX : ShaAtL w Z xs) :
    Calls Tryd.prog 13 #[.pointer (some ⟨Z.S, Z.o, none⟩)] w fun e w' => e = .returned (.int .u64 xs.length) ∧ w = w' := by
  have c72 := hX.2.cell72
  clear hX
  go_enter Tryd.func13, Tryd.ntmps13
  go_wp2
  go_ret
  exact ⟨rfl, rfl⟩
theorem len_any (S : Nat) (xs : List Int) (w : World) (hX : ShaAt w S xs) :
    Calls Tryd.prog 13 #[.pointer (some ⟨S, 0, none⟩)] w fun e w' => e = .returned (.int .u64 xs.length) ∧ w = w' := lenL_any (Loc.sha S) xs w (shaAt_plain.2 hX)
theorem len_nil (w : World) :
    Calls Tryd.prog 13 #[.pointer none] w fun e w' => e = .returned (.int .u64 0) ∧ w = w' := by
  go_enter Tryd.func13, Tryd.ntmps13
  go_wp2
  go_ret
  exact ⟨rfl, rfl⟩
theorem copy_nil (w : World) :
    Calls Tryd.prog 12 #[.pointer none] w fun e w' => e = .returned (.pointer none) ∧ w = w' := by
  go_enter Tryd.func12, Tryd.ntmps12
  go_wp2
  go_ret
  exact ⟨rfl, rfl⟩
set_option maxHeartbeats 1000000 in
theorem copyL_any (Z : Loc) (xs : List Int) (w : World) (hX : ShaAtL w Z xs) :
    Calls Tryd.prog 12 #[.pointer (some ⟨Z.S, Z.o, none⟩)] w fun e w' => e = .returned (.pointer (some ⟨w.heap.size, 0, none⟩)) ∧ ShaAt w' w.heap.size xs ∧ Below w.heap.size w w' ∧ w.heap.size < w'.heap.size := by
  have hz := (zero_of_info zero_sha).1
  have X0 := Lib.hid hX.2
  have Z1 := Lib.hid (show ShaIn (w.alloc (.cells (shaC [0, 0, 0, 0, 0, 0, 0, 0] (fun _ => 0) 0) 32)) w.heap.size [0, 0, 0, 0, 0, 0, 0, 0] (fun _ => 0) 0 from At.new _ w _)
  have HY := Lib.hid hX.1
  clear hX
  go_enter Tryd.func12, Tryd.ntmps12
  go_wp2_with (first | (refine load_shaL X0.out rfl rfl rfl ?_) | (refine store_sha Z1.out rfl rfl rfl rfl ?_))
  go_ret
  exact ⟨rfl, ⟨HY.out, At.row Z1.out⟩, below_row ((Below.refl _ w).alloc (Nat.le_refl _) _) (Nat.le_refl _) _, by simp⟩
theorem copy_any (S : Nat) (xs : List Int) (w : World) (hX : ShaAt w S xs) :
    Calls Tryd.prog 12 #[.pointer (some ⟨S, 0, none⟩)] w fun e w' => e = .returned (.pointer (some ⟨w.heap.size, 0, none⟩)) ∧ ShaAt w' w.heap.size xs ∧ Below w.heap.size w w' ∧ w.heap.size < w'.heap.size := copyL_any (Loc.sha S) xs w (shaAt_plain.2 hX)
end Go.Proofs.YtkhhejkemkldgaaDoor
