/- check of any entry; the closure put of plainOf. -/
import Derived.Test.YtmeamdfmcpkofaaDoorECheck
import Derived.Laws.Shifts
set_option linter.unusedVariables false
set_option linter.unusedSimpArgs false
namespace Go.Proofs.YtmeamdfmcpkofaaDoor
open Go.RowKit Go.Shelf
attribute [local go_sem] Oper.semAt_some
theorem name_none {n : Int} (h : ¬ (1 ≤ n ∧ n ≤ 5)) : nameS n = ⟨#[]⟩ := by
  unfold nameS
  split
  · have : n = 0 := by omega
    rw [this]; rfl
  · rfl
set_option maxHeartbeats 1000000 in
theorem check_any (x : En) (hx : x.ok) (w : World) (hT : TabE w) : Calls Tryd.prog 15 #[.agg (enV x)] w (CkE x w) := by
  by_cases h : 1 ≤ x.kind ∧ x.kind ≤ 5
  · exact check_kind x.kind.toNat (by omega) x hx (by omega) w hT
  · obtain ⟨g0, _⟩ := enV_get x
    have hB1 : Below w.heap.size w ((w.alloc (.cells (enV x) 27)).alloc (.cells #[.int .i64 0] 29)) := ((Below.refl _ w).alloc (Nat.le_refl _) _).alloc (by simp) _
    have hnm := name_any x.kind hx.kind _ (hT.next hB1)
    rw [name_none h] at hnm
    have HNM := Lib.hid hnm
    have HB1 := Lib.hid hB1
    have HNO := Lib.hid (show ¬ ∃ k, May k x from fun ⟨k, m⟩ => h (by have := m.is; have := m.kind; omega))
    clear hx hT h hnm hB1
    unfold CkE
    go_enter Tryd.func15, Tryd.ntmps15
    go_wp2_with fail
    refine HNM.out.mono ?_
    rintro e W ⟨rfl, rfl⟩
    go_wp2
    exact bodyPost_ret (v := .int .i64 150) (results_er rfl (at_second _ _ _)) rfl ⟨.inr ⟨HNO.out, rfl⟩, ((Below.refl _ w).alloc (Nat.le_refl _) _).alloc (by simp) _⟩
/-- Appending bytes that lie somewhere to a row of one's own. -/
theorem run_appN (base ty : Nat) (w : World) (v : Value) (ys : List Int) (hown : Own8 base w v ys) (a : Addr) (c : Nat) (xs : List Int) (hx : Oct xs) (hc : ∀ j u, (vals8 xs)[j]? = some u → w.cell? (a.add j) = some u) (hlen : ys.length + xs.length ≤ 1000000) (hbase : base ≤ w.heap.size) :
    ∃ v' w', (Builtin.append_ #[28, 28] ty #[v, .slice (some a) xs.length c]).run Tryd.prog w = .ok v' w' ∧ Own8 base w' v' (ys ++ xs) ∧ w.grownBy w' v.ownBlock ∧ (v'.ownBlock = v.ownBlock ∨ v'.ownBlock = some w.heap.size) := by
  obtain ⟨i, hi, hz, hs, hby⟩ := parts8
  obtain ⟨v', w', hrun, h2, h3, _, h4⟩ := run_append_own_at (P := Tryd.prog) w base 28 ty 5 i (.int .u8 0) 1 1 Tryd.underlying28 hi hz hs hby rfl (by decide) v ys.length (vals8 ys) hown.2 a xs.length c (vals8 xs) (by simp [vals8]) hc (vals8_one xs)
    (by unfold maxLen; omega) (by omega) hbase
  refine ⟨v', w', hrun, ⟨?_, by rw [List.length_append, ← vals8_app]; exact h2⟩, h3, h4⟩
  intro x hx'
  rcases List.mem_append.1 hx' with h | h
  · exact hown.1 x h
  · exact hx x h
/-- A box of bytes of one's own grew. -/
structure PutE (base Bb : Nat) (w : World) (v : Value) (w' : World) (v' : Value) (ys : List Int) : Prop where
  box : At 28 w' Bb #[v']
  own : Own8 base w' v' ys
  blk : v'.ownBlock = v.ownBlock ∨ ∃ g, v'.ownBlock = some g ∧ w.heap.size ≤ g
  size : w.heap.size ≤ w'.heap.size
  os : w'.os = w.os
  tape : w'.tape = w.tape
  output : w'.output = w.output
  keep : ∀ j, j < w.heap.size → j ≠ Bb → some j ≠ v.ownBlock → w'.heap[j]? = w.heap[j]?
theorem PutE.refl {base Bb : Nat} {w : World} {v : Value} {ys : List Int} (hA : At 28 w Bb #[v]) (hO : Own8 base w v ys) : PutE base Bb w v w v ys :=
  ⟨hA, hO, .inl rfl, Nat.le_refl _, rfl, rfl, rfl, fun _ _ _ _ => rfl⟩
theorem PutE.trans {base Bb : Nat} {w w1 w2 : World} {v v1 v2 : Value} {ys ys2 : List Int} (h : PutE base Bb w v w1 v1 ys) (k : PutE base Bb w1 v1 w2 v2 ys2) : PutE base Bb w v w2 v2 ys2 := by
  refine ⟨k.box, k.own, ?_, Nat.le_trans h.size k.size, k.os.trans h.os, k.tape.trans h.tape, k.output.trans h.output, fun j hj hb hv => ?_⟩
  · rcases k.blk with e | ⟨g, e, hg⟩
    · rw [e]; exact h.blk
    · exact .inr ⟨g, e, Nat.le_trans h.size hg⟩
  · have h1 := h.size
    refine (k.keep j (by omega) hb (fun e => ?_)).trans (h.keep j hj hb hv)
    rcases h.blk with q | ⟨g, q, hg⟩
    · exact hv (e.trans q)
    · rw [q] at e; cases e; omega
theorem own_ne {base Bb : Nat} {w : World} {v v0 : Value} {ys : List Int} {T : TypeId} {cs : Array Value} (hA : At T w Bb cs) (hT : T ≠ 5) (hO : Own8 base w v ys) : some Bb ≠ v.ownBlock := by
  intro e
  rcases hO.2.2 with ⟨rfl, _⟩ | ⟨g, cap, cur, rfl, hg, hb, _⟩
  · simp [Value.ownBlock] at e
  · simp [Value.ownBlock] at e
    subst e
    unfold At at hA
    rw [hA] at hb
    cases hb
    exact hT rfl
/-- One more byte. -/
theorem put_one {base Bb : Nat} {W : World} {v : Value} {ys : List Int} (hA : At 28 W Bb #[v]) (hO : Own8 base W v ys) (hl : ys.length ≤ 1000) (hb : base ≤ W.heap.size) (y : Int) (hy : 0 ≤ y ∧ y < 256) :
    ∃ v' w', (Builtin.append_ #[28, 28] 28 #[v, .slice (some ⟨W.heap.size, 0, none⟩) 1 1]).run Tryd.prog (W.alloc (.cells #[.int .u8 y] 5)) = .ok v' w' ∧
      w'.cell? ⟨Bb, 0, none⟩ = some v ∧ w'.frozen? ⟨Bb, 0, none⟩ = false ∧ v'.oneCell' = true ∧ PutE base Bb W v (w'.setCell ⟨Bb, 0, none⟩ v') v' (ys ++ [y]) := by
  have hB : Below W.heap.size W (W.alloc (.cells #[.int .u8 y] 5)) := (Below.refl _ W).alloc (Nat.le_refl _) _
  have hc : (W.alloc (.cells #[.int .u8 y] 5)).cell? ⟨W.heap.size, 0, none⟩ = some (.int .u8 y) := cell_of_row _ _ 0 _ _ _ (World.alloc_heap_new W _)
  obtain ⟨v', w', hr, h1, h2, h3⟩ := run_appN base 28 (W.alloc (.cells #[.int .u8 y] 5)) v ys (hO.below hB (Nat.le_refl _)) ⟨W.heap.size, 0, none⟩ 1 [y] (fun x hx => by rw [List.mem_singleton.1 hx]; exact hy) (fun j u hu => by
    have hj : j = 0 := by have := (List.getElem?_eq_some_iff.1 hu).1; simp [vals8] at this; omega
    subst hj
    simp [vals8] at hu
    subst hu
    exact hc) (by simp; omega) (Nat.le_trans hb hB.size)
  have hne := own_ne (v0 := v) hA (by decide) hO
  have hA1 : At 28 (W.alloc (.cells #[.int .u8 y] 5)) Bb #[v] := hA.alloc _
  have hA2 : At 28 w' Bb #[v] := (h2.block Bb hA1.lt hne).trans hA1
  have hne' : some Bb ≠ v'.ownBlock := own_ne (v0 := v) hA2 (by decide) h1
  have hs2 := h2.size
  simp only [World.size_alloc] at hs2
  refine ⟨v', w', hr, hA2.cell 0, hA2.free 0, ?_, ⟨hA2.set 0 v', ?_, ?_, by simp; omega, h2.os, h2.tape, h2.output, fun j hj hjb hjv => ?_⟩⟩
  · obtain ⟨a, c, rfl⟩ := h1.form; rfl
  · refine ⟨h1.1, h1.2.1, ?_⟩
    rcases h1.2.2 with e | ⟨g, cap, cur, rfl, hg, hh, r⟩
    · exact .inl e
    · refine .inr ⟨g, cap, cur, rfl, hg, (heap_setCell_other _ ⟨Bb, 0, none⟩ g _ (fun e => hne' (by simp [Value.ownBlock]; exact e.symm))).trans hh, r⟩
  · rcases h3 with e | e
    · exact .inl e
    · exact .inr ⟨_, e, by simp⟩
  · exact (heap_setCell_other _ ⟨Bb, 0, none⟩ j _ hjb).trans ((h2.block j (by simp; omega) hjv).trans (hB.block j hj))
theorem exec_shr {o : Oper} {a : Act} {x y : Operand} {c : Int} {k : Nat} {w : World} (ho : o.op = .binOp .shr 23 x y 3) (hx : a.eval x = .int .u64 c) (hy : a.eval y = .int .i64 (8 * (k : Int))) (h0 : 0 ≤ c) (h1 : c < 18446744073709551616) (hk : k < 8) : (execOp a.eval o).run Tryd.prog w = .ok (.value (.int .u64 (c / 256 ^ k))) w := by
  unfold execOp
  simp only [ho, hx, hy]
  have hc : k = 0 ∨ k = 1 ∨ k = 2 ∨ k = 3 ∨ k = 4 ∨ k = 5 ∨ k = 6 ∨ k = 7 := by omega
  rcases hc with rfl | rfl | rfl | rfl | rfl | rfl | rfl | rfl <;> go_simp
theorem conv_u8 (c : Int) (h0 : 0 ≤ c) (k : Nat) : IntKind.u8.wrap (c / 256 ^ k) = c / 256 ^ k % 256 := by
  simp [IntKind.wrap, IntKind.bits, IntKind.signed]
theorem cell_lt {w : World} {a : Addr} {v : Value} (h : w.cell? a = some v) : a.block < w.heap.size := by
  obtain ⟨o, ho, _⟩ := cells_of_cell h
  exact (Array.getElem?_eq_some_iff.1 ho).1
def PutP (base Bb : Nat) (v : Value) (zs : List Int) (w : World) (e : Ending) (w' : World) : Prop := (∃ u, e = .returned u) ∧ ∃ v', PutE base Bb w v w' v' zs
theorem be_oct1 (s : Nat) (n : Int) : 0 ≤ n / 256 ^ s % 256 ∧ n / 256 ^ s % 256 < 256 := by omega
set_option maxRecDepth 100000 in
set_option maxHeartbeats 4000000 in
theorem put_any (n : Int) (hn : 0 ≤ n ∧ n < 18446744073709551616) (s : Nat) (hs : s ≤ 8) (base Bb : Nat) (v : Value) (ys : List Int) (hl : ys.length ≤ 500) (w : World) (hA : At 28 w Bb #[v]) (hO : Own8 base w v ys) (hb : base ≤ w.heap.size) :
    Calls Tryd.prog 47 #[.int .u64 n, .int .i64 (s : Int), .pointer (some ⟨Bb, 0, none⟩)] w (PutP base Bb v (ys ++ be s n) w) := by
  have H0 := Lib.hid (And.intro hA hO)
  have HL := Lib.hid (And.intro hl hb)
  have HN := Lib.hid (And.intro hn hs)
  clear hA hO hl hn hs hb
  unfold PutP
  go_enter Tryd.func47, Tryd.ntmps47
  go_wp2
  go_loopw [1] (fun t wr => ∃ (k : Nat) (v1 : Value) (zs : List Int), k ≤ s ∧ t = .int .i64 (k : Int) ∧ zs ++ be k n = ys ++ be s n ∧ PutE base Bb w v wr v1 zs) (fun t _ => (RowKit.intOf t).toNat)
  case atStart => exact ⟨s, v, ys, Nat.le_refl _, rfl, rfl, PutE.refl H0.out.1 H0.out.2⟩
  case round =>
    obtain ⟨k, v1, zs, hk, rfl, hz, hP⟩ := hrel
    by_cases hk0 : k = 0
    · subst hk0
      have HP := Lib.hid (show ∃ v', PutE base Bb w v wr v' (ys ++ be s n) from ⟨v1, by rw [← hz]; simpa [be] using hP⟩)
      clear hz hP hk
      go_wp2
      go_end0
      exact ⟨⟨_, rfl⟩, HP.out⟩
    · obtain ⟨m, rfl⟩ : ∃ m, k = m + 1 := ⟨k - 1, by omega⟩
      have hm8 : m < 8 := by have := HN.out.2; omega
      have hlen : zs.length ≤ 1000 := by
        have := congrArg List.length hz
        rw [List.length_append, List.length_append, be_len, be_len] at this
        have h5 := HL.out.1
        have h8 := HN.out.2
        omega
      obtain ⟨y, hy⟩ : ∃ y, n / 256 ^ m % 256 = y := ⟨_, rfl⟩
      have hyo : 0 ≤ y ∧ y < 256 := by rw [← hy]; exact be_oct1 m n
      have hbase : base ≤ wr.heap.size := Nat.le_trans HL.out.2 hP.size
      obtain ⟨v2, W3, hrun, c0, f0, h1, hPE⟩ := put_one (W := wr.drew) hP.box hP.own hlen hbase y hyo
      have HRUN := Lib.hid hrun
      have HSTO := Lib.hid (And.intro c0 (And.intro f0 h1))
      have HREL := Lib.hid (show (zs ++ [y]) ++ be m n = ys ++ be s n ∧ PutE base Bb w v (W3.setCell ⟨Bb, 0, none⟩ v2) v2 (zs ++ [y]) from ⟨by rw [← hz, ← hy]; simp [be], hP.trans ⟨hPE.box, hPE.own, hPE.blk, hPE.size, hPE.os, hPE.tape, hPE.output, hPE.keep⟩⟩)
      have HMS := Lib.hid (show m ≤ s by omega)
      have HM8 := Lib.hid hm8
      have i0 : (0 : Int) < ((m + 1 : Nat) : Int) := by omega
      have i1 : ((m + 1 : Nat) : Int) - 1 = (m : Int) := by omega
      have w1 : wrap64 (m : Int) = (m : Int) := by unfold wrap64; omega
      have q1 : (fun Z : World => Z.cell? ⟨Bb, 0, none⟩ = some v1) wr.drew := hP.box.cell 0
      have HQ := Lib.hid q1
      have HY := Lib.hid hy
      have W8 := Lib.hid (show IntKind.i64.wrap (8 * (m : Int)) = 8 * (m : Int) by simp [IntKind.wrap, IntKind.bits, IntKind.signed]; omega)
      have HCV := Lib.hid (show IntKind.u8.wrap (n / 256 ^ m) = y by rw [conv_u8 n HN.out.1.1 m]; exact hy)
      clear hz hP hk hk0 hlen hy hyo hbase hrun c0 f0 h1 hPE q1 i1 hm8
      go_wp2_with fail
      have q1 := HQ.out
      refine regionL (fun Z : World => Z.cell? ⟨Bb, 0, none⟩ = some v1) 8 (by kernel_rfl) ?_
      refine takeL (i := 0) (oi := { dst := some 9, op := Go.Op.load 28 (Go.Operand.tmp 2), type := 28, pos := "entry.go:252", after := #[], guard := none }) (v := v1) [8, 7] rfl (by kernel_rfl) (by kernel_rfl) (by kernel_rfl) (by kernel_rfl) (fun _ _ _ h => calm_panic h) rfl ?_ q1 ?_
      · intro Z hZ; go_simp
      simp only [Act.put, List.setIfInBounds_toArray, List.set_cons_zero, List.set_cons_succ]
      refine takeL (i := 1) (oi := { dst := some 10, op := Go.Op.move (Go.Operand.tmp 0), type := 23, pos := "entry.go:252", after := #[], guard := none }) (v := .int .u64 n) [8, 7, 6, 5, 4] rfl (by kernel_rfl) (by kernel_rfl) (by kernel_rfl) (by kernel_rfl) (fun _ _ _ h => calm_panic h) rfl ?_ q1 ?_
      · intro Z hZ; go_simp
      simp only [Act.put, List.setIfInBounds_toArray, List.set_cons_zero, List.set_cons_succ]
      refine takeL (i := 2) (oi := { dst := some 11, op := Go.Op.move (Go.Operand.tmp 1), type := 3, pos := "entry.go:252", after := #[], guard := none }) (v := .int .i64 (m : Int)) [8, 7, 6, 5, 4, 3] rfl (by kernel_rfl) (by kernel_rfl) (by kernel_rfl) (by kernel_rfl) (fun _ _ _ h => calm_panic h) rfl ?_ q1 ?_
      · intro Z hZ; go_simp
      simp only [Act.put, List.setIfInBounds_toArray, List.set_cons_zero, List.set_cons_succ]
      refine takeL (i := 3) (oi := { dst := some 12, op := Go.Op.binOp Go.BinOp.mul 3 (Go.Operand.const (Go.Value.int Go.IntKind.i64 8)) (Go.Operand.tmp 11) 3, type := 3, pos := "entry.go:252", after := #[{ on := 2, ground := Go.Ground.data }], guard := none }) (v := .int .i64 (8 * (m : Int))) [8, 7, 6, 5, 4] rfl (by kernel_rfl) (by kernel_rfl) (by kernel_rfl) (by kernel_rfl) (fun _ _ _ h => calm_panic h) rfl ?_ q1 ?_
      · intro Z hZ; have e := W8.out; go_simp
      simp only [Act.put, List.setIfInBounds_toArray, List.set_cons_zero, List.set_cons_succ]
      refine takeL (i := 4) (oi := { dst := some 13, op := Go.Op.binOp Go.BinOp.shr 23 (Go.Operand.tmp 10) (Go.Operand.tmp 12) 3, type := 23, pos := "entry.go:252", after := #[{ on := 1, ground := Go.Ground.data }, { on := 3, ground := Go.Ground.data }], guard := none }) (v := .int .u64 (n / 256 ^ m)) [8, 7, 6, 5] rfl (by kernel_rfl) (by kernel_rfl) (by kernel_rfl) (by kernel_rfl) (fun _ _ _ h => calm_panic h) rfl ?_ q1 ?_
      · exact fun Z hZ => exec_shr rfl rfl rfl HN.out.1.1 HN.out.1.2 HM8.out
      simp only [Act.put, List.setIfInBounds_toArray, List.set_cons_zero, List.set_cons_succ]
      refine takeL (i := 5) (oi := { dst := some 14, op := Go.Op.convert 23 5 (Go.Operand.tmp 13), type := 5, pos := "entry.go:252", after := #[{ on := 4, ground := Go.Ground.data }], guard := none }) (v := .int .u8 y) [8, 7, 6] rfl (by kernel_rfl) (by kernel_rfl) (by kernel_rfl) (by kernel_rfl) (fun _ _ _ h => calm_panic h) rfl ?_ q1 ?_
      · intro Z hZ; have e := HCV.out; go_simp
      simp only [Act.put, List.setIfInBounds_toArray, List.set_cons_zero, List.set_cons_succ]
      refine oneL (i := 6) (o := { dst := some 15, op := Go.Op.buildSlice 28 1 #[(0, Go.Operand.tmp 14)], type := 28, pos := "entry.go:252", after := #[{ on := 5, ground := Go.Ground.data }], guard := none }) rfl (by kernel_rfl) rfl ?_
      refine wp_by_run (w' := wr.drew.alloc (.cells #[.int .u8 y] 5)) (v := .slice (some ⟨wr.drew.heap.size, 0, none⟩) 1 1) (by go_simp) ⟨fun _ => (World.cell?_of_block (a := ⟨Bb, 0, none⟩) (Below.heap_alloc _ _ _ (cell_lt q1))).trans q1, ?_⟩
      simp only [Act.put, List.setIfInBounds_toArray, List.set_cons_zero, List.set_cons_succ]
      refine oneL (i := 7) (o := { dst := some 16, op := Go.Op.call { callee := Go.Callee.builtin Go.Builtin.append, args := #[Go.Operand.tmp 9, Go.Operand.tmp 15], argTypes := #[28, 28] }, type := 28, pos := "entry.go:252", after := #[{ on := 0, ground := Go.Ground.data }, { on := 6, ground := Go.Ground.data }], guard := none }) rfl (by kernel_rfl) rfl ?_
      refine wp_by_run (w' := W3) (v := v2) (exec_append rfl rfl rfl HRUN.out) ⟨fun _ => HSTO.out.1, ?_⟩
      simp only [Act.put, List.setIfInBounds_toArray, List.set_cons_zero, List.set_cons_succ]
      refine oneL (i := 8) (o := { dst := none, op := Go.Op.store 28 (Go.Operand.tmp 2) (Go.Operand.tmp 16), type := 0, pos := "entry.go:252", after := #[{ on := 7, ground := Go.Ground.data }, { on := 7, ground := Go.Ground.chain }, { on := 0, ground := Go.Ground.phase }, { on := 1, ground := Go.Ground.phase }, { on := 2, ground := Go.Ground.phase }, { on := 3, ground := Go.Ground.phase }, { on := 4, ground := Go.Ground.phase }, { on := 5, ground := Go.Ground.phase }, { on := 6, ground := Go.Ground.phase }, { on := 7, ground := Go.Ground.phase }], guard := none }) rfl (by kernel_rfl) rfl ?_
      refine wp_by_skip (w' := W3.setCell ⟨Bb, 0, none⟩ v2) (exec_store rfl rfl rfl HSTO.out.1 HSTO.out.2.1 HSTO.out.2.2 (by kernel_rfl)) ⟨fun h => absurd rfl h, ?_⟩
      simp only [Act.put, List.setIfInBounds_toArray, List.set_cons_zero, List.set_cons_succ]
      refine doneL (by kernel_rfl) (Calm.normal ?_) _
      have HMM := Lib.hid (show ((m : Int)).toNat < ((m + 1 : Nat) : Int).toNat by omega)
      go_roundw
      case rel => exact ⟨_, _, _, _, _, _, _, _, _, _, _, _, _, ⟨m, v2, zs ++ [y], HMS.out, rfl, HREL.out⟩, rfl⟩
      case measure => first | exact HMM.out | (show (RowKit.intOf (.int .i64 (m : Int))).toNat < _; simp [RowKit.intOf]; omega)
end Go.Proofs.YtmeamdfmcpkofaaDoor
