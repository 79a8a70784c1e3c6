/- EntryApart. -/
import Derived.Test.YtmeamdfmcpkofaaDoorEPlainLaw
import Derived.Test.YtmeamdfmcpkofaaDoorESplit
set_option linter.unusedVariables false
set_option linter.unusedSimpArgs false
namespace Go.Proofs.YtmeamdfmcpkofaaDoor
open Go.RowKit Go.Shelf
def An (P : Prop) (n : Int) : Prop := (P → n = 0) ∧ (¬ P → n = 150)
theorem bytes_n (x : En) (hx : x.ok) (w : World) (hT : TabE w) : Calls Tryd.prog 9 #[.agg (enV x)] w fun e w' =>
    ∃ v n, e = .returned (.tuple #[v, .int .i64 n]) ∧ ((n = 0 ∧ ∃ k, May k x ∧ Own8 w.heap.size w' v (bytesL k x)) ∨ (n = 150 ∧ ¬ ∃ k, May k x)) ∧ Below w.heap.size w w' := by
  refine (bytes_any x hx w hT).mono ?_
  rintro e w' ⟨⟨k, v, m, rfl, ho⟩ | ⟨hno, rfl⟩, hb⟩
  · exact ⟨v, 0, rfl, .inl ⟨rfl, k, m, ho⟩, hb⟩
  · exact ⟨_, 150, rfl, .inr ⟨rfl, hno⟩, hb⟩
theorem line_n (x : En) (hx : x.ok) (w : World) (hT : TabsP w) : Calls Tryd.prog 16 #[.agg (enV x)] w fun e w' =>
    ∃ (s : ByteArray) (n : Int), e = .returned (.tuple #[.string s, .int .i64 n]) ∧ ((n = 0 ∧ ∃ k, May k x ∧ s = ⟨(lineL k x).toArray⟩) ∨ (n = 150 ∧ ¬ ∃ k, May k x)) ∧ Below w.heap.size w w' := by
  refine (line_any x hx w hT.tab hT.pow).mono ?_
  rintro e w' ⟨⟨k, m, rfl⟩ | ⟨hno, rfl⟩, hb⟩
  · exact ⟨_, 0, rfl, .inl ⟨rfl, k, m, rfl⟩, hb⟩
  · exact ⟨_, 150, rfl, .inr ⟨rfl, hno⟩, hb⟩
structure ApAt (w : World) (x y : En) (W : World) : Prop where
  below : Below w.heap.size w W
  ax : At 27 W w.heap.size (enV x)
  ay : At 27 W (w.heap.size + 1) (enV y)
  tab : TabsP W
theorem ApAt.next {w W W' : World} {x y : En} (h : ApAt w x y W) (hb : Below W.heap.size W W') : ApAt w x y W' := ⟨h.below.trans (hb.mono h.below.size), h.ax.below h.ax.lt hb, h.ay.below h.ay.lt hb, h.tab.next hb⟩
theorem slice_to (w : World) (a : Addr) (n c m : Nat) (h : m ≤ c) : (Instr.sliceAt 28 (.slice (some a) n c) none (some (.int .i64 (m : Int))) none).run Tryd.prog w = .ok (.slice (some a) m c) w := by
  have hu : Tryd.prog.underlying 28 = some (.slice (Tryd.prog.elem 28)) := by kernel_rfl
  rw [run_sliceAt_slice _ _ _ _ _ _ hu, run_slice_h _ _ _ _ _ hu _ _ (by omega) (by omega)]
  have hs : (sizeOf (Tryd.prog.elem 28)).run Tryd.prog w = .ok 1 w := by kernel_rfl
  rw [hs]
  simp [Result.andThen, sliced]
  intro _
  unfold Addr.add
  simp
theorem Own8.first {base : Nat} {w : World} {g : Addr} {xs : List Int} {c m : Nat} (h : Own8 base w (.slice (some g) xs.length c) xs) (hm : m ≤ xs.length) : Bys8 w.heap.size w (.slice (some g) m c) (xs.take m) := by
  refine ⟨fun z hz => h.1 z (List.mem_of_mem_take hz), ?_⟩
  rcases h.bys.2 with ⟨rfl, _⟩ | ⟨b, off, cap, e, hb, hc⟩
  · obtain rfl : m = 0 := by simpa using hm
    exact .inl ⟨rfl, _, _, rfl⟩
  · cases e
    refine .inr ⟨b, off, c, by rw [List.length_take, Nat.min_eq_left hm], hb, fun j hj => ?_⟩
    rw [List.length_take, Nat.min_eq_left hm] at hj
    rw [hc j (by omega)]
    simp [List.getD, List.getElem?_take, hj]
theorem beq_iff {s t : ByteArray} {r : Bool} {p : Prop} (h : s = t ↔ p) (hr : r = true ↔ p) : (s.toList == t.toList) = r := by
  rw [toList_beq, Bool.eq_iff_iff, decide_eq_true_iff, h, hr]
theorem str_iff {a b : List Int} {p : Prop} (ha : Oct a) (hb : Oct b) (h : a = b ↔ p) : strOfNums a = strOfNums b ↔ p :=
  ⟨fun e => h.1 (strN_inj ha hb (by have := congrArg (fun b => b.data.toList) e; rwa [strOfNums_data, strOfNums_data] at this)), fun hp => by rw [h.2 hp]⟩
theorem exec_eql {o : Oper} {a : Act} {x y : Operand} {us vs : Array Value} {r : Value} {w : World} (ho : o.op = .binOp .eql 27 x y 27) (hx : a.eval x = .agg us) (hy : a.eval y = .agg vs)
    (h : (binOp .eql 27 (.agg us) (.agg vs)).run Tryd.prog w = .ok r w) : (execOp a.eval o).run Tryd.prog w = .ok (.value r) w := by
  have hg := run_eqGuard_agg (P := Tryd.prog) w .eql 27 x y us vs (by kernel_rfl)
  unfold execOp
  simp only [ho, hx, hy, Sem.run_bind, hg, Result.andThen_ok, h, Sem.run_pure]
theorem wpStill_val {ops : Array Oper} {w : World} {Q : Act → Prop} {a : Act} {o : Oper} {rest : List Oper} {v : Value} (hw : Region.wanted o (yielded ops a.tmps) = true) (hrun : (execOp a.eval o).run Tryd.prog w = .ok (.value v) w)
    (h : wpStill Tryd.prog ops w Q rest (a.put o.dst v)) : wpStill Tryd.prog ops w Q (o :: rest) a := by
  refine wpStill_step (fun K hK => ?_)
  rw [if_pos hw]
  unfold Oper.still
  rw [hrun]
  exact ⟨rfl, hK _ h⟩
set_option maxRecDepth 100000 in
set_option maxHeartbeats 3000000 in
theorem apart_any (x y : En) (hx : x.ok) (hy : y.ok) (w : World) (hT : TabsP w) : Calls Tryd.prog 7 #[.agg (enV x), .agg (enV y)] w fun e w' => e = .returned (.bool true) ∧ Below w.heap.size w w' := by
  obtain ⟨W1, hW1⟩ : ∃ W1, W1 = (w.alloc (.cells (enV x) 27)).alloc (.cells (enV y) 27) := ⟨_, rfl⟩
  have hB1 : Below w.heap.size w W1 := by rw [hW1]; exact ((Below.refl _ w).alloc (Nat.le_refl _) _).alloc (by simp) _
  have hA1 : At 27 W1 w.heap.size (enV x) := by rw [hW1]; exact at_first _ _ _
  have hC1 : At 27 W1 (w.heap.size + 1) (enV y) := by rw [hW1]; exact at_second _ _ _
  have HAL := Lib.hid (alive_any W1 (hT.next hB1).tab (hT.next hB1).pow)
  have HX := Lib.hid (And.intro hx hy)
  have H1 := Lib.hid (ApAt.mk hB1 hA1 hC1 (hT.next hB1))
  have HW := Lib.hid hW1
  clear hT hx hy hB1 hA1 hC1 hW1
  go_enter Tryd.func7, Tryd.ntmps7
  go_wp2_with (first | (go_at_call 22; rw [← HW.out]) | fail)
  refine HAL.out.mono ?_
  rintro e W2 ⟨rfl, hb⟩
  have H2 := Lib.hid (H1.out.next hb)
  have HC := Lib.hid (bytes_n x HX.out.1 W2 H2.out.tab.tab)
  clear hb H1 HAL HW
  go_wp2_with (first | (refine load_en (X := x) (g := w.heap.size) H2.out.ax rfl rfl rfl ?_) | fail)
  refine HC.out.mono ?_
  rintro e W3 ⟨va, na, rfl, hRa, hb⟩
  have H3 := Lib.hid (H2.out.next hb)
  have HRA := Lib.hid hRa
  have HD := Lib.hid (bytes_n y HX.out.2 W3 H3.out.tab.tab)
  clear hb H2 HC hRa
  go_wp2_with (first | (refine load_en (X := y) (g := w.heap.size + 1) H3.out.ay rfl rfl rfl ?_) | fail)
  refine HD.out.mono ?_
  rintro e W4 ⟨vb, nb, rfl, hRb, hb⟩
  have H4 := Lib.hid (H3.out.next hb)
  have HRB := Lib.hid hRb
  have HB34 := Lib.hid hb
  have HC := Lib.hid (line_n x HX.out.1 W4 H4.out.tab)
  clear hb H3 HD hRb
  go_wp2_with (first | (refine load_en (X := x) (g := w.heap.size) H4.out.ax rfl rfl rfl ?_) | fail)
  refine HC.out.mono ?_
  rintro e W5 ⟨sx, ns, rfl, hRs, hb⟩
  have H5 := Lib.hid (H4.out.next hb)
  have HRS := Lib.hid hRs
  have HB45 := Lib.hid hb
  have HD := Lib.hid (line_n y HX.out.2 W5 H5.out.tab)
  clear hb H4 HC hRs
  go_wp2_with (first | (refine load_en (X := y) (g := w.heap.size + 1) H5.out.ay rfl rfl rfl ?_) | fail)
  refine HD.out.mono ?_
  rintro e W6 ⟨sy, nt, rfl, hRt, hb⟩
  have H6 := Lib.hid (H5.out.next hb)
  have HRT := Lib.hid hRt
  have HB46 := Lib.hid (HB45.out.trans (hb.mono HB45.out.size))
  clear hb H5 HD hRt HB45
  have nA0 : (∃ k, May k x) → na = 0 := fun m => by
    rcases HRA.out with ⟨h, _⟩ | ⟨_, h⟩
    · exact h
    · exact absurd m h
  have nA1 : (¬ ∃ k, May k x) → na = 150 := fun m => by
    rcases HRA.out with ⟨_, k, h, _⟩ | ⟨h, _⟩
    · exact absurd ⟨k, h⟩ m
    · exact h
  have nB0 : (∃ k, May k y) → nb = 0 := fun m => by
    rcases HRB.out with ⟨h, _⟩ | ⟨_, h⟩
    · exact h
    · exact absurd m h
  have nB1 : (¬ ∃ k, May k y) → nb = 150 := fun m => by
    rcases HRB.out with ⟨_, k, h, _⟩ | ⟨h, _⟩
    · exact absurd ⟨k, h⟩ m
    · exact h
  have nS0 : (∃ k, May k x) → ns = 0 := fun m => by
    rcases HRS.out with ⟨h, _⟩ | ⟨_, h⟩
    · exact h
    · exact absurd m h
  have nS1 : (¬ ∃ k, May k x) → ns = 150 := fun m => by
    rcases HRS.out with ⟨_, k, h, _⟩ | ⟨h, _⟩
    · exact absurd ⟨k, h⟩ m
    · exact h
  have nT0 : (∃ k, May k y) → nt = 0 := fun m => by
    rcases HRT.out with ⟨h, _⟩ | ⟨_, h⟩
    · exact h
    · exact absurd m h
  have nT1 : (¬ ∃ k, May k y) → nt = 150 := fun m => by
    rcases HRT.out with ⟨_, k, h, _⟩ | ⟨h, _⟩
    · exact absurd ⟨k, h⟩ m
    · exact h
  by_cases mx : ∃ k, May k x
  · by_cases my : ∃ k, May k y
    · obtain rfl := nA0 mx
      obtain rfl := nB0 my
      obtain rfl := nS0 mx
      obtain rfl := nT0 my
      clear nA0 nA1 nB0 nB1 nS0 nS1 nT0 nT1
      obtain ⟨j, mj, oa⟩ : ∃ k, May k x ∧ Own8 W2.heap.size W3 va (bytesL k x) := by
        rcases HRA.out with ⟨_, h⟩ | ⟨h, _⟩
        · exact h
        · cases h
      obtain ⟨k, mk, ob⟩ : ∃ k, May k y ∧ Own8 W3.heap.size W4 vb (bytesL k y) := by
        rcases HRB.out with ⟨_, h⟩ | ⟨h, _⟩
        · exact h
        · cases h
      obtain rfl : sx = ⟨(lineL j x).toArray⟩ := by
        rcases HRS.out with ⟨_, i, h, e⟩ | ⟨h, _⟩
        · rw [e, h.one mj]
        · cases h
      obtain rfl : sy = ⟨(lineL k y).toArray⟩ := by
        rcases HRT.out with ⟨_, i, h, e⟩ | ⟨h, _⟩
        · rw [e, h.one mk]
        · cases h
      clear HRA HRB HRS HRT mx my
      obtain ⟨aa, ac, ea⟩ := oa.form
      obtain ⟨ba, bc, eb⟩ := ob.form
      subst ea eb
      have la := bytesL_len (k := j) HX.out.1
      have lb := bytesL_len (k := k) HX.out.2
      have la1 : 0 < (bytesL j x).length := by rw [la]; unfold lenN; omega
      have lb1 : 0 < (bytesL k y).length := by rw [lb]; unfold lenN; omega
      obtain ⟨ga, rfl, _, _⟩ := oa.at_ la1
      obtain ⟨gb, rfl, _, _⟩ := ob.at_ lb1
      obtain ⟨W7, hW7⟩ : ∃ W7 : World, W7 = { W6 with drawn := W6.drawn + 1 } := ⟨_, rfl⟩
      have oa6 : Own8 W2.heap.size W6 (.slice (some ⟨ga, 0, none⟩) (bytesL j x).length ac) (bytesL j x) := (oa.below HB34.out (Nat.le_refl _)).below HB46.out (Nat.le_refl _)
      have ob6 : Own8 W3.heap.size W6 (.slice (some ⟨gb, 0, none⟩) (bytesL k y).length bc) (bytesL k y) := ob.below HB46.out (Nat.le_refl _)
      have h7 : ∀ {v : Value} {xs : List Int}, Bys8 W6.heap.size W6 v xs → Bys8 W7.heap.size W7 v xs := by rw [hW7]; exact fun h => h
      have hca := conv_bys8 (h7 oa6.bys)
      have hcb := conv_bys8 (h7 ob6.bys)
      have hx := HX.out.1
      have hy := HX.out.2
      have obyA : Oct (bytesL j x) := oa.1
      have obyB : Oct (bytesL k y) := ob.1
      obtain ⟨r, hr, hri⟩ := eq_en x y hx.len hy.len W7
      have hEQ : (binOp .eql 27 (.agg (enV x)) (.agg (enV y))).run Tryd.prog W7 = .ok (.bool r) W7 := by
        rw [run_eql_struct, hr]; rfl
      have same : x = y → j = k := fun e => by subst e; exact mj.one mk
      have q1 : ((strOfNums (bytesL j x)).toList == (strOfNums (bytesL k y)).toList) = r := beq_iff (str_iff obyA obyB ⟨bytesL_inj hx hy mj mk, fun e => by obtain rfl := same e; rw [e]⟩) hri
      have q2 : (lineL j x == lineL k y) = r := by
        rw [Bool.eq_iff_iff, beq_iff_eq, hri]
        exact ⟨fun e => lineL_inj hx hy mj mk e, fun e => by obtain rfl := same e; rw [e]⟩
      obtain ⟨n, hn⟩ : ∃ n, n = min (bytesL j x).length (bytesL k y).length := ⟨_, rfl⟩
      have q3 : ((strOfNums ((bytesL j x).take n)).toList == (strOfNums ((bytesL k y).take n)).toList) = r := beq_iff (str_iff (fun z hz => obyA z (List.mem_of_mem_take hz)) (fun z hz => obyB z (List.mem_of_mem_take hz)) ⟨bytesL_apart hx hy mj mk hn, fun e => by obtain rfl := same e; rw [e]⟩) hri
      have na : n ≤ (bytesL j x).length := by omega
      have nb : n ≤ (bytesL k y).length := by omega
      have hsa := slice_to W7 ⟨ga, 0, none⟩ (bytesL j x).length ac n (by have := oa.cap; omega)
      have hsb := slice_to W7 ⟨gb, 0, none⟩ (bytesL k y).length bc n (by have := ob.cap; omega)
      have hpa := conv_bys8 (h7 (oa6.first na))
      have hpb := conv_bys8 (h7 (ob6.first nb))
      have h6 := H6.out
      have HLX := Lib.hid (show (loadVar 27 ⟨w.heap.size, 0, none⟩).run Tryd.prog W7 = .ok (.agg (enV x)) W7 from load_enV (by rw [hW7]; exact h6.ax))
      have HLY := Lib.hid (show (loadVar 27 ⟨w.heap.size + 1, 0, none⟩).run Tryd.prog W7 = .ok (.agg (enV y)) W7 from load_enV (by rw [hW7]; exact h6.ay))
      have HE := Lib.hid (show Below w.heap.size w W7 by
        have := h6.below
        rw [hW7]; exact ⟨this.os, this.tape, this.output, this.size, this.block⟩)
      have HEQ := Lib.hid hEQ
      have HW7 := Lib.hid hW7
      have hif : min ((bytesL j x).length : Int) ((bytesL k y).length : Int) = (n : Int) := by
        rw [hn]; omega
      clear HB34 HB46 H6 HX hx hy obyA obyB hr hri hEQ same na nb hn oa6 ob6 oa ob h7 h6 hW7 la lb la1 lb1 mj mk
      go_wp2
      refine wp_region_still_lit (by kernel_rfl) (by kernel_rfl) ?_
      rw [← HW7.out]
      iterate 7 still_step

      refine wpStill_val (by kernel_rfl) (exec_load rfl rfl HLX.out) ?_
      refine wpStill_val (by kernel_rfl) (exec_load rfl rfl HLY.out) ?_
      refine wpStill_val (by kernel_rfl) (exec_eql rfl rfl rfl HEQ.out) ?_
      iterate 6 still_step
      refine wpStill_val (by kernel_rfl) (exec_load rfl rfl HLX.out) ?_
      refine wpStill_val (by kernel_rfl) (exec_load rfl rfl HLY.out) ?_
      refine wpStill_val (by kernel_rfl) (exec_eql rfl rfl rfl HEQ.out) ?_
      iterate 12 still_step
      refine wpStill_val (by kernel_rfl) (exec_load rfl rfl HLX.out) ?_
      refine wpStill_val (by kernel_rfl) (exec_load rfl rfl HLY.out) ?_
      refine wpStill_val (by kernel_rfl) (exec_eql rfl rfl rfl HEQ.out) ?_
      iterate 3 still_step
      refine wpStill_nil ?_
      go_wp2
      exact bodyPost_ret (v := .bool true) (by simp [results, Tryd.results7, go_sem]) rfl ⟨rfl, HE.out⟩
    · obtain rfl := nA0 mx
      obtain rfl := nB1 my
      obtain rfl := nS0 mx
      obtain rfl := nT1 my
      clear nA0 nA1 nB0 nB1 nS0 nS1 nT0 nT1 HRA HRB HRS HRT mx my
      go_wp2
      exact bodyPost_ret (v := .bool true) (by simp [results, Tryd.results7, go_sem]) rfl ⟨rfl, H6.out.below⟩
  · by_cases my : ∃ k, May k y
    · obtain rfl := nA1 mx
      obtain rfl := nB0 my
      obtain rfl := nS1 mx
      obtain rfl := nT0 my
      clear nA0 nA1 nB0 nB1 nS0 nS1 nT0 nT1 HRA HRB HRS HRT mx my
      go_wp2
      exact bodyPost_ret (v := .bool true) (by simp [results, Tryd.results7, go_sem]) rfl ⟨rfl, H6.out.below⟩
    · obtain rfl := nA1 mx
      obtain rfl := nB1 my
      obtain rfl := nS1 mx
      obtain rfl := nT1 my
      clear nA0 nA1 nB0 nB1 nS0 nS1 nT0 nT1 HRA HRB HRS HRT mx my
      go_wp2
      exact bodyPost_ret (v := .bool true) (by simp [results, Tryd.results7, go_sem]) rfl ⟨rfl, H6.out.below⟩
theorem apartLaw (x y : En) (w : World) (hT : TabsP w) (hx : x.ok) (hy : y.ok) : Calls Tryd.prog 7 #[.agg (enV x), .agg (enV y)] w fun e w' => e = .returned (.bool true) ∧ Below w.heap.size w w' := apart_any x y hx hy w hT
end Go.Proofs.YtmeamdfmcpkofaaDoor
