/- Bytes, Plain. -/
import Derived.Test.YtmeamdfmcpkofaaDoorEPlain
set_option linter.unusedVariables false
set_option linter.unusedSimpArgs false
namespace Go.Proofs.YtmeamdfmcpkofaaDoor
open Go.RowKit Go.Shelf
def BytesP (f : Nat → En → List Int) (x : En) (w : World) (e : Ending) (w' : World) : Prop :=
  ((∃ k v, May k x ∧ e = .returned (.tuple #[v, .int .i64 0]) ∧ Own8 w.heap.size w' v (f k x)) ∨ ((¬ ∃ k, May k x) ∧ e = .returned (.tuple #[.slice none 0 0, .int .i64 150]))) ∧ Below w.heap.size w w'
set_option maxRecDepth 100000 in
set_option maxHeartbeats 1000000 in
theorem plain_any (x : En) (hx : x.ok) (w : World) (hT : TabE w) : Calls Tryd.prog 11 #[.agg (enV x)] w (BytesP plainL x w) := by
  obtain ⟨W1, hW1⟩ : ∃ W1, W1 = w.alloc (.cells (enV x) 27) := ⟨_, rfl⟩
  have hB1 : Below w.heap.size w W1 := by rw [hW1]; exact (Below.refl _ w).alloc (Nat.le_refl _) _
  have hA1 : At 27 W1 w.heap.size (enV x) := by rw [hW1]; exact At.new _ _ _
  have HA1 := Lib.hid (And.intro hA1 hB1)
  have HCK := Lib.hid (check_any x hx W1 (hT.next hB1))
  have HX := Lib.hid hx
  have HT := Lib.hid (hT.next hB1)
  have HW := Lib.hid hW1
  clear hx hT hA1 hB1 hW1
  unfold BytesP
  go_enter Tryd.func11, Tryd.ntmps11
  go_wp2_with (first | (refine load_en (X := x) (g := w.heap.size) (by rw [← HW.out]; exact HA1.out.1) rfl rfl rfl ?_) | fail)
  rw [← HW.out]
  refine HCK.out.mono ?_
  rintro e W2 ⟨(⟨⟨k, m⟩, rfl⟩ | ⟨hno, rfl⟩), hB2⟩
  · have hA2 : At 27 W2 w.heap.size (enV x) := (hB2.block _ HA1.out.1.lt).trans HA1.out.1
    have HA2 := Lib.hid hA2
    have HPL := Lib.hid (plainOf_any k ⟨m.is.1, by have := m.is; omega⟩ x HX.out m.kind W2 (HT.out.next hB2))
    have HB2 := Lib.hid (HA1.out.2.trans (hB2.mono HA1.out.2.size))
    have HM := Lib.hid m
    clear hA2 hB2 m HCK
    go_wp2_with (first | (refine load_en HA2.out rfl rfl rfl ?_) | fail)
    refine HPL.out.mono ?_
    rintro e W3 ⟨v, rfl, hO, hB3⟩
    have HE := Lib.hid (And.intro (hO.le HB2.out.size) (HB2.out.trans (hB3.mono HB2.out.size)))
    clear hO hB3
    go_wp2
    exact bodyPost_ret (v := .tuple #[v, .int .i64 0]) (by simp [results, Tryd.results11, go_sem]) rfl ⟨.inl ⟨k, v, HM.out, rfl, HE.out.1⟩, HE.out.2⟩
  · have HNO := Lib.hid hno
    have HB2 := Lib.hid (HA1.out.2.trans (hB2.mono HA1.out.2.size))
    clear hno hB2 HCK
    go_wp2
    exact bodyPost_ret (v := .tuple #[.slice none 0 0, .int .i64 150]) (by simp [results, Tryd.results11, go_sem]) rfl ⟨.inr ⟨HNO.out, rfl⟩, HB2.out⟩
theorem slice_hash (W : World) (b : Nat) : (Instr.sliceAt 25 (.pointer (some ⟨b, 10, none⟩)) none none none).run Tryd.prog W = .ok (.slice (some ⟨b, 10, none⟩) 32 32) W := by
  have h := run_sliceAt_array_all (P := Tryd.prog) W 25 ⟨b, 10, none⟩ (by kernel_rfl)
  have sz : ∀ w, (sizeOf 5).run Tryd.prog w = .ok 1 w := fun w => by kernel_rfl
  rw [h, show Tryd.prog.elem 25 = 5 by kernel_rfl, sz, show Tryd.prog.arrayLen 25 = 32 by kernel_rfl]
  simp [Result.andThen, slicedAt, Addr.add_mid]
theorem wpList_val {w w' : World} {ops : Array Oper} {rest : List Oper} {o : Oper} {a : Act} {v : Value} {Q : Exit → Act → World → Prop} (hgd : o.guard = none) (hrun : (execOp a.eval o).run Tryd.prog w = .ok (.value v) w') (h : wpList Tryd.prog ops Q rest (a.put o.dst v) w') : wpList Tryd.prog ops Q (o :: rest) a w :=
  wpList_plain hgd fun K hK => by unfold Oper.wp; rw [hrun]; exact hK _ _ h
set_option maxRecDepth 100000 in
set_option maxHeartbeats 1000000 in
theorem bytes_any (x : En) (hx : x.ok) (w : World) (hT : TabE w) : Calls Tryd.prog 9 #[.agg (enV x)] w (BytesP bytesL x w) := by
  obtain ⟨W1, hW1⟩ : ∃ W1, W1 = w.alloc (.cells (enV x) 27) := ⟨_, rfl⟩
  have hB1 : Below w.heap.size w W1 := by rw [hW1]; exact (Below.refl _ w).alloc (Nat.le_refl _) _
  have hA1 : At 27 W1 w.heap.size (enV x) := by rw [hW1]; exact At.new _ _ _
  have HA1 := Lib.hid (And.intro hA1 hB1)
  have HCK := Lib.hid (check_any x hx W1 (hT.next hB1))
  have HX := Lib.hid hx
  have HT := Lib.hid (hT.next hB1)
  have HW := Lib.hid hW1
  clear hx hT hA1 hB1 hW1
  unfold BytesP
  go_enter Tryd.func9, Tryd.ntmps9
  go_wp2_with (first | (refine load_en (X := x) (g := w.heap.size) (by rw [← HW.out]; exact HA1.out.1) rfl rfl rfl ?_) | fail)
  rw [← HW.out]
  refine HCK.out.mono ?_
  rintro e W2 ⟨(⟨⟨k, m⟩, rfl⟩ | ⟨hno, rfl⟩), hB2⟩
  · have hA2 : At 27 W2 w.heap.size (enV x) := (hB2.block _ HA1.out.1.lt).trans HA1.out.1
    have HA2 := Lib.hid hA2
    have HPL := Lib.hid (plainOf_any k ⟨m.is.1, by have := m.is; omega⟩ x HX.out m.kind W2 (HT.out.next hB2))
    have HB2 := Lib.hid (HA1.out.2.trans (hB2.mono HA1.out.2.size))
    have HM := Lib.hid m
    clear hA2 hB2 m HCK
    go_wp2_with (first | (refine load_en HA2.out rfl rfl rfl ?_) | fail)
    refine HPL.out.mono ?_
    rintro e W3 ⟨v, rfl, hO, hB3⟩
    have hA3 : At 27 W3 w.heap.size (enV x) := (hB3.block _ HA2.out.lt).trans HA2.out
    have hO' := hO.le HB2.out.size
    have hBw := HB2.out.trans (hB3.mono HB2.out.size)
    by_cases h3 : 3 ≤ k
    · rw [decide_eq_true h3]
      have hlen : (plainL k x).length + x.hash.length ≤ 1000000 := by
        have h1 := bytesL_len (k := k) HX.out
        unfold bytesL at h1
        rw [List.length_append, if_pos h3] at h1
        rw [h1]
        unfold lenN
        have := sizes_small (k := k)
        rw [lay_nums k HM.out.is, sizesOf_app] at this
        split <;> omega
      obtain ⟨v', W4, hr, h1, h2, _⟩ := run_appN w.heap.size 28 W3 v (plainL k x) hO' ⟨w.heap.size, 10, none⟩ 32 x.hash HX.out.bytes (fun j u hu => by
        have hj : j < 32 := by
          have := (List.getElem?_eq_some_iff.1 hu).1
          rw [vals8_len, HX.out.len] at this
          exact this
        rw [Addr.add_mid]
        rw [vals8_get _ j (by rw [HX.out.len]; exact hj)] at hu
        rw [hA3.cell (10 + j), enV_hash x j hj, ← hu]
        rfl) hlen hBw.size
      rw [HX.out.len] at hr
      have HR := Lib.hid hr
      have HSL := Lib.hid (fun Z => slice_hash Z w.heap.size)
      have HE := Lib.hid (show Own8 w.heap.size W4 v' (bytesL k x) ∧ Below w.heap.size w W4 from ⟨by unfold bytesL; rw [if_pos h3]; exact h1, hBw.trans ⟨h2.os, h2.tape, h2.output, h2.size, fun j hj => h2.block j (by have := hBw.size; omega) (fun e => by have := hO'.row j e.symm; omega)⟩⟩)
      clear hO hB3 hA3 hO' hBw h3 hlen hr h1 h2
      have hsl := HSL.out W3
      go_wp2_with (first | (at_builtin; refine wpList_val rfl (exec_append rfl rfl rfl HR.out) ?_) | fail)
      exact bodyPost_ret (v := .tuple #[v', .int .i64 0]) (by simp [results, Tryd.results9, go_sem]) rfl ⟨.inl ⟨k, v', HM.out, rfl, HE.out.1⟩, HE.out.2⟩
    · rw [decide_eq_false h3]
      have HE := Lib.hid (show Own8 w.heap.size W3 v (bytesL k x) ∧ Below w.heap.size w W3 from ⟨by unfold bytesL; rw [if_neg h3, List.append_nil]; exact hO', hBw⟩)
      clear hO hB3 hA3 hO' hBw h3
      go_wp2
      exact bodyPost_ret (v := .tuple #[v, .int .i64 0]) (by simp [results, Tryd.results9, go_sem]) rfl ⟨.inl ⟨k, v, HM.out, rfl, HE.out.1⟩, HE.out.2⟩
  · have HNO := Lib.hid hno
    have HB2 := Lib.hid (HA1.out.2.trans (hB2.mono HA1.out.2.size))
    clear hno hB2 HCK
    go_wp2
    exact bodyPost_ret (v := .tuple #[.slice none 0 0, .int .i64 150]) (by simp [results, Tryd.results9, go_sem]) rfl ⟨.inr ⟨HNO.out, rfl⟩, HB2.out⟩
end Go.Proofs.YtmeamdfmcpkofaaDoor
