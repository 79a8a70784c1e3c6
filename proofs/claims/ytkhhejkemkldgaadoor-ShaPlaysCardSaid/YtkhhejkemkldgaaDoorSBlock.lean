/- The statement of Write that takes a whole block in, as it stands in a round: whatever order is drawn. -/
import Derived.Test.YtkhhejkemkldgaaDoorSExec
set_option linter.unusedVariables false
set_option linter.unusedSimpArgs false
namespace Go.Proofs.YtkhhejkemkldgaaDoor
open Go.RowKit Go.Shelf
theorem eval_put (a : Act) (d t : Nat) (v : Value) (h : d < a.tmps.size) : (a.put (some d) v).eval (.tmp t) = if t = d then v else a.eval (.tmp t) := by
  by_cases e : t = d
  · subst e; simp [Act.put, Act.eval, h]
  · rw [if_neg e]
    simp [Act.put, Act.eval, Ne.symm e]
theorem size_put (a : Act) (d : Nat) (v : Value) : (a.put (some d) v).tmps.size = a.tmps.size := by simp [Act.put]
def LB (s : List Nat) : Array Bool := ((List.range 14).map fun i => s.contains i).toArray
/-- What all operations of a round leave as it is. -/
def WS (Z : Loc) (H b' : Nat) (L : List Int) (X : World) : Prop := Boxed X H 24 (.pointer (some ⟨Z.S, Z.o, none⟩)) ∧ At 29 X b' (nums .u8 64 (bf L))
theorem WS.below {Z : Loc} {H b' : Nat} {L : List Int} {X Y : World} {B : Nat} (h : WS Z H b' L X) (hb : Below B X Y) (h1 : H < B) (h2 : b' < B) : WS Z H b' L Y := ⟨(hb.block _ h1).trans h.1, h.2.below h2 hb⟩
theorem WS.grown {Z : Loc} {H b' : Nat} {L : List Int} {X Y : World} (h : WS Z H b' L X) (hg : X.grownBy Y (some Z.S)) (h1 : H ≠ Z.S) (h2 : b' ≠ Z.S) : WS Z H b' L Y :=
  ⟨(hg.block _ h.1.lt (fun e => h1 (by injection e))).trans h.1, (hg.block _ h.2.lt (fun e => h2 (by injection e))).trans h.2⟩
theorem load_box (X : World) (b : Nat) (v : Value) (h : Boxed X b 24 v) : (loadVar 24 ⟨b, 0, none⟩).run Tryd.prog X = .ok v X := by
  have c := h.cell
  have e := run_isAgg_plain (P := Tryd.prog) (t := 24) Tryd.underlying24 rfl X
  simp [loadVar, Sem.run_bind, e, c]
theorem load_block_var (W : World) (g : Nat) (f : Nat → Int) (h : At 29 W g (nums .u8 64 f)) : (loadVar 29 ⟨g, 0, none⟩).run Tryd.prog W = .ok (.agg (nums .u8 64 f)) W :=
  run_loadVar_row W g _ 29 _ _ _ h Tryd.underlying29 rfl (size_block f)
theorem comp_eq (s : List Nat) (b : List Int) : (turns (Eight.of s) (words b) 64).list = comp s b := rfl
set_option maxHeartbeats 1000000 in
theorem region_block {l n id : Nat} {Q : Exit → Act → World → Prop} {L0 : List Oper} {ops : Array Oper} (hops : L0.toArray = ops) (hlen : ops.size = 14) (hsel : Region.noSelect ops = true) (hdf : noDefer L0 = true) (o0 o1 o2 o3 o4 o5 o6 o7 o8 o9 o10 o11 o12 o13 : Oper)
    (p0 : ops[0]? = some o0) (e0 : o0.op = .load 24 (.tmp 2)) (d0 : o0.dst = some 39) (g0 : o0.guard = none)
    (p1 : ops[1]? = some o1) (e1 : o1.op = .load 24 (.tmp 2)) (d1 : o1.dst = some 40) (g1 : o1.guard = none)
    (p2 : ops[2]? = some o2) (e2 : o2.op = .nilCheck (.tmp 40)) (d2 : o2.dst = some 41) (g2 : o2.guard = none)
    (p3 : ops[3]? = some o3) (e3 : o3.op = .fieldAddr 32 (.tmp 41) 0) (d3 : o3.dst = some 42) (g3 : o3.guard = none)
    (p4 : ops[4]? = some o4) (e4 : o4.op = .load 27 (.tmp 42)) (d4 : o4.dst = some 43) (g4 : o4.guard = none)
    (p5 : ops[5]? = some o5) (e5 : o5.op = .load 24 (.tmp 2)) (d5 : o5.dst = some 44) (g5 : o5.guard = none)
    (p6 : ops[6]? = some o6) (e6 : o6.op = .call { callee := .value (.func 29), args := #[.tmp 44], argTypes := #[24] }) (d6 : o6.dst = some 45) (g6 : o6.guard = none)
    (p7 : ops[7]? = some o7) (e7 : o7.op = .load 29 (.tmp 5)) (d7 : o7.dst = some 46) (g7 : o7.guard = none)
    (p8 : ops[8]? = some o8) (e8 : o8.op = .call { callee := .value (.func 30), args := #[.tmp 46], argTypes := #[29] }) (d8 : o8.dst = some 47) (g8 : o8.guard = none)
    (p9 : ops[9]? = some o9) (e9 : o9.op = .call { callee := .value (.func 28), args := #[.tmp 45, .tmp 47], argTypes := #[27, 64] }) (d9 : o9.dst = some 48) (g9 : o9.guard = none)
    (p10 : ops[10]? = some o10) (e10 : o10.op = .call { callee := .value (.func 27), args := #[.tmp 43, .tmp 48], argTypes := #[27, 27] }) (d10 : o10.dst = some 49) (g10 : o10.guard = none)
    (p11 : ops[11]? = some o11) (e11 : o11.op = .nilCheck (.tmp 39)) (d11 : o11.dst = some 50) (g11 : o11.guard = none)
    (p12 : ops[12]? = some o12) (e12 : o12.op = .fieldAddr 32 (.tmp 50) 0) (d12 : o12.dst = some 51) (g12 : o12.guard = none)
    (p13 : ops[13]? = some o13) (e13 : o13.op = .store 27 (.tmp 51) (.tmp 49)) (d13 : o13.dst = none) (g13 : o13.guard = none)
    (f0 : Region.free .any ops (LB []) 0 = true) (c0 : (Region.ready .any ops (LB [])).contains 0 = true)
    (f1 : Region.free .any ops (LB [0]) 1 = true) (c1 : (Region.ready .any ops (LB [0])).contains 1 = true)
    (f2 : Region.free .any ops (LB [0, 1]) 2 = true) (c2 : (Region.ready .any ops (LB [0, 1])).contains 2 = true)
    (f3 : Region.free .any ops (LB [0, 1, 2]) 3 = true) (c3 : (Region.ready .any ops (LB [0, 1, 2])).contains 3 = true)
    (f5 : Region.free .any ops (LB [0, 1, 2, 3]) 5 = true) (c5 : (Region.ready .any ops (LB [0, 1, 2, 3])).contains 5 = true)
    (f7 : Region.free .any ops (LB [0, 1, 2, 3, 5]) 7 = true) (c7 : (Region.ready .any ops (LB [0, 1, 2, 3, 5])).contains 7 = true)
    (rn : Region.ready .any ops (LB [0, 1, 2, 3, 5, 7]) = [4, 6])
    (r4 : Region.ready .any ops (LB [0, 1, 2, 3, 4, 5, 7]) = [6])
    (r6 : Region.ready .any ops (LB [0, 1, 2, 3, 5, 6, 7]) = [4, 8])
    (r4_6 : Region.ready .any ops (LB [0, 1, 2, 3, 4, 5, 6, 7]) = [8])
    (r6_8 : Region.ready .any ops (LB [0, 1, 2, 3, 5, 6, 7, 8]) = [4, 9])
    (r4_6_8 : Region.ready .any ops (LB [0, 1, 2, 3, 4, 5, 6, 7, 8]) = [9])
    (r6_8_9 : Region.ready .any ops (LB [0, 1, 2, 3, 5, 6, 7, 8, 9]) = [4])
    (r4_6_8_9 : Region.ready .any ops (LB [0, 1, 2, 3, 4, 5, 6, 7, 8, 9]) = [10])
    (r4_6_8_9_10 : Region.ready .any ops (LB [0, 1, 2, 3, 4, 5, 6, 7, 8, 9, 10]) = [11])
    (r4_6_8_9_10_11 : Region.ready .any ops (LB [0, 1, 2, 3, 4, 5, 6, 7, 8, 9, 10, 11]) = [12])
    (r4_6_8_9_10_11_12 : Region.ready .any ops (LB [0, 1, 2, 3, 4, 5, 6, 7, 8, 9, 10, 11, 12]) = [13])
    (r4_6_8_9_10_11_12_13 : Region.ready .any ops (LB [0, 1, 2, 3, 4, 5, 6, 7, 8, 9, 10, 11, 12, 13]) = [])
    (a : Act) (ha : a.tmps.size = 52) (Z : Loc) (H b' : Nat) (A : List Nat) (f : Nat → Int) (nn : Int) (b : List Int) (hA : Words A) (bb : Bytes b) (ha2 : a.eval (.tmp 2) = .pointer (some ⟨H, 0, none⟩)) (ha5 : a.eval (.tmp 5) = .pointer (some ⟨b', 0, none⟩))
    (W : World) (hT : Tabs W) (hS : ShaInL W Z A f nn) (hW : WS Z H b' b W) (hHS : H ≠ Z.S) (hbS : b' ≠ Z.S)
    (fin : ∀ X a', Below W.heap.size W X → Q .normal a' (X.setCells Z.S Z.o (nums .u32 8 (wf (plus A (comp (plus initial A) b)))).toList)) :
    (Code.region id L0.toArray true).wpIn (Fence.wide.inRound l) n Tryd.prog Q a W := by
  subst hops
  have hS0 : Below W.heap.size W W.drew := (Below.refl _ _).drew
  have ws : ∀ X, Below W.heap.size W X → WS Z H b' b X := fun X hX => hW.below hX hW.1.lt hW.2.lt
  have sha : ∀ X, Below W.heap.size W X → ShaInL X Z A f nn := fun X hX => At.below hS (At.lt hS) hX
  have tab : ∀ X, Below W.heap.size W X → Tabs X := fun X hX => hT.below hT.lt hX
  have nx : ∀ {X Y}, Below W.heap.size W X → Below X.heap.size X Y → Below W.heap.size W Y := fun h g => h.trans (g.mono h.size)
  have ws2 : ∀ X, Below W.heap.size W X → WS Z H b' b (X.setCells Z.S Z.o (nums .u32 8 (wf (plus A (comp (plus initial A) b)))).toList) := fun X hX => (ws X hX).grown (grown_setCells Z.S _ Z.o X) hHS hbS
  refine regionIn_held (WS Z H b' b) (by kernel_rfl) hdf ?_
  rw [hlen]
  rw [show Array.replicate 14 false = LB [] from by decide]
  refine held_take (i := 0) p0 hsel f0 c0 g0 (fun X hX => exec_load e0 (by simp [eval_put, size_put, ha, ha2, ha5]) (load_box X _ _ hX.1)) (ws _ hS0) ?_
  rw [show (LB []).setIfInBounds 0 true = (LB [0]) from by decide]
  rw [d0]
  refine held_take (i := 1) p1 hsel f1 c1 g1 (fun X hX => exec_load e1 (by simp [eval_put, size_put, ha, ha2, ha5]) (load_box X _ _ hX.1)) (ws _ hS0) ?_
  rw [show (LB [0]).setIfInBounds 1 true = (LB [0, 1]) from by decide]
  rw [d1]
  refine held_take (i := 2) p2 hsel f2 c2 g2 (fun X hX => exec_nil e2 (p := ⟨Z.S, Z.o, none⟩) (by simp [eval_put, size_put, ha, ha2, ha5])) (ws _ hS0) ?_
  rw [show (LB [0, 1]).setIfInBounds 2 true = (LB [0, 1, 2]) from by decide]
  rw [d2]
  refine held_take (i := 3) p3 hsel f3 c3 g3 (fun X hX => exec_field0 e3 (S := Z.S) (p := Z.o) (by simp [eval_put, size_put, ha, ha2, ha5])) (ws _ hS0) ?_
  rw [show (LB [0, 1, 2]).setIfInBounds 3 true = (LB [0, 1, 2, 3]) from by decide]
  rw [d3]
  refine held_take (i := 5) p5 hsel f5 c5 g5 (fun X hX => exec_load e5 (by simp [eval_put, size_put, ha, ha2, ha5]) (load_box X _ _ hX.1)) (ws _ hS0) ?_
  rw [show (LB [0, 1, 2, 3]).setIfInBounds 5 true = (LB [0, 1, 2, 3, 5]) from by decide]
  rw [d5]
  refine held_take (i := 7) p7 hsel f7 c7 g7 (fun X hX => exec_load e7 (by simp [eval_put, size_put, ha, ha2, ha5]) (load_block_var X b' _ hX.2)) (ws _ hS0) ?_
  rw [show (LB [0, 1, 2, 3, 5]).setIfInBounds 7 true = (LB [0, 1, 2, 3, 5, 7]) from by decide]
  rw [d7]
  refine held_two p4 p6 rn g4 g6 ?_ ?_
  · refine wp_of_run (exec_load e4 (by simp [eval_put, size_put, ha, ha2, ha5]) (load_added_var W.drew Z _ _ _ (sha _ hS0))) ⟨ws _ hS0, ?_⟩
    rw [show (LB [0, 1, 2, 3, 5, 7]).setIfInBounds 4 true = (LB [0, 1, 2, 3, 4, 5, 7]) from by decide]
    rw [d4]
    refine held_one p6 r4 g6 ?_
    refine wp_call e6 (by simp [eval_put, size_put, ha, ha2, ha5]) (enters_of Tryd.func29 (by kernel_rfl) rfl) (currentL_any Z _ _ _ hA W.drew (tab _ hS0) (sha _ hS0)) ?_
    intro X1 q1
    have h1 := nx hS0 q1
    refine ⟨ws _ h1, ?_⟩
    rw [show (LB [0, 1, 2, 3, 4, 5, 7]).setIfInBounds 6 true = (LB [0, 1, 2, 3, 4, 5, 6, 7]) from by decide]
    rw [d6]
    refine held_one p8 r4_6 g8 ?_
    refine wp_call e8 (by simp [eval_put, size_put, ha, ha2, ha5]) (enters_of Tryd.func30 (by kernel_rfl) rfl) (expand_any _ bb X1) ?_
    intro X2 q2
    have h2 := nx h1 q2
    refine ⟨ws _ h2, ?_⟩
    rw [show (LB [0, 1, 2, 3, 4, 5, 6, 7]).setIfInBounds 8 true = (LB [0, 1, 2, 3, 4, 5, 6, 7, 8]) from by decide]
    rw [d8]
    refine held_one p9 r4_6_8 g9 ?_
    refine wp_call e9 (by simp [eval_put, size_put, ha, ha2, ha5]) (enters_of Tryd.func28 (by kernel_rfl) rfl) (rounds_any (plus initial A) (words b) (plus_words _ _) (words_words bb) X2 (tab _ h2)) ?_
    intro X3 q3
    have h3 := nx h2 q3
    refine ⟨ws _ h3, ?_⟩
    rw [comp_eq]
    rw [show (LB [0, 1, 2, 3, 4, 5, 6, 7, 8]).setIfInBounds 9 true = (LB [0, 1, 2, 3, 4, 5, 6, 7, 8, 9]) from by decide]
    rw [d9]
    refine held_one p10 r4_6_8_9 g10 ?_
    refine wp_call e10 (by simp [eval_put, size_put, ha, ha2, ha5]) (enters_of Tryd.func27 (by kernel_rfl) rfl) (plus_any A (comp (plus initial A) b) hA (comp_words (plus_words _ _) _) X3) ?_
    intro X4 q4
    have h4 := nx h3 q4
    refine ⟨ws _ h4, ?_⟩
    rw [show (LB [0, 1, 2, 3, 4, 5, 6, 7, 8, 9]).setIfInBounds 10 true = (LB [0, 1, 2, 3, 4, 5, 6, 7, 8, 9, 10]) from by decide]
    rw [d10]
    refine held_val p11 r4_6_8_9_10 g11 (exec_nil e11 (p := ⟨Z.S, Z.o, none⟩) (by simp [eval_put, size_put, ha, ha2, ha5])) (ws _ h4) ?_
    rw [show (LB [0, 1, 2, 3, 4, 5, 6, 7, 8, 9, 10]).setIfInBounds 11 true = (LB [0, 1, 2, 3, 4, 5, 6, 7, 8, 9, 10, 11]) from by decide]
    rw [d11]
    refine held_val p12 r4_6_8_9_10_11 g12 (exec_field0 e12 (S := Z.S) (p := Z.o) (by simp [eval_put, size_put, ha, ha2, ha5])) (ws _ h4) ?_
    rw [show (LB [0, 1, 2, 3, 4, 5, 6, 7, 8, 9, 10, 11]).setIfInBounds 12 true = (LB [0, 1, 2, 3, 4, 5, 6, 7, 8, 9, 10, 11, 12]) from by decide]
    rw [d12]
    refine held_one p13 r4_6_8_9_10_11_12 g13 ?_
    refine wp_store_mid 27 _ _ e13 Z.S Z.o (nums .u32 8 (wf (plus A (comp (plus initial A) b)))) (by simp [eval_put, size_put, ha, ha2, ha5]) (by simp [eval_put, size_put, ha, ha2, ha5]) ((sha _ h4).there 0 _ (by rw [nums_size]; omega)) (size_state _) (nums_one _ _ _) ⟨ws2 _ h4, ?_⟩
    rw [show (LB [0, 1, 2, 3, 4, 5, 6, 7, 8, 9, 10, 11, 12]).setIfInBounds 13 true = (LB [0, 1, 2, 3, 4, 5, 6, 7, 8, 9, 10, 11, 12, 13]) from by decide]
    exact held_done r4_6_8_9_10_11_12_13 (fin _ _ h4) _
  · refine wp_call e6 (by simp [eval_put, size_put, ha, ha2, ha5]) (enters_of Tryd.func29 (by kernel_rfl) rfl) (currentL_any Z _ _ _ hA W.drew (tab _ hS0) (sha _ hS0)) ?_
    intro X1 q1
    have h1 := nx hS0 q1
    refine ⟨ws _ h1, ?_⟩
    rw [show (LB [0, 1, 2, 3, 5, 7]).setIfInBounds 6 true = (LB [0, 1, 2, 3, 5, 6, 7]) from by decide]
    rw [d6]
    refine held_two p4 p8 r6 g4 g8 ?_ ?_
    · refine wp_of_run (exec_load e4 (by simp [eval_put, size_put, ha, ha2, ha5]) (load_added_var X1 Z _ _ _ (sha _ h1))) ⟨ws _ h1, ?_⟩
      rw [show (LB [0, 1, 2, 3, 5, 6, 7]).setIfInBounds 4 true = (LB [0, 1, 2, 3, 4, 5, 6, 7]) from by decide]
      rw [d4]
      refine held_one p8 r4_6 g8 ?_
      refine wp_call e8 (by simp [eval_put, size_put, ha, ha2, ha5]) (enters_of Tryd.func30 (by kernel_rfl) rfl) (expand_any _ bb X1) ?_
      intro X2 q2
      have h2 := nx h1 q2
      refine ⟨ws _ h2, ?_⟩
      rw [show (LB [0, 1, 2, 3, 4, 5, 6, 7]).setIfInBounds 8 true = (LB [0, 1, 2, 3, 4, 5, 6, 7, 8]) from by decide]
      rw [d8]
      refine held_one p9 r4_6_8 g9 ?_
      refine wp_call e9 (by simp [eval_put, size_put, ha, ha2, ha5]) (enters_of Tryd.func28 (by kernel_rfl) rfl) (rounds_any (plus initial A) (words b) (plus_words _ _) (words_words bb) X2 (tab _ h2)) ?_
      intro X3 q3
      have h3 := nx h2 q3
      refine ⟨ws _ h3, ?_⟩
      rw [comp_eq]
      rw [show (LB [0, 1, 2, 3, 4, 5, 6, 7, 8]).setIfInBounds 9 true = (LB [0, 1, 2, 3, 4, 5, 6, 7, 8, 9]) from by decide]
      rw [d9]
      refine held_one p10 r4_6_8_9 g10 ?_
      refine wp_call e10 (by simp [eval_put, size_put, ha, ha2, ha5]) (enters_of Tryd.func27 (by kernel_rfl) rfl) (plus_any A (comp (plus initial A) b) hA (comp_words (plus_words _ _) _) X3) ?_
      intro X4 q4
      have h4 := nx h3 q4
      refine ⟨ws _ h4, ?_⟩
      rw [show (LB [0, 1, 2, 3, 4, 5, 6, 7, 8, 9]).setIfInBounds 10 true = (LB [0, 1, 2, 3, 4, 5, 6, 7, 8, 9, 10]) from by decide]
      rw [d10]
      refine held_val p11 r4_6_8_9_10 g11 (exec_nil e11 (p := ⟨Z.S, Z.o, none⟩) (by simp [eval_put, size_put, ha, ha2, ha5])) (ws _ h4) ?_
      rw [show (LB [0, 1, 2, 3, 4, 5, 6, 7, 8, 9, 10]).setIfInBounds 11 true = (LB [0, 1, 2, 3, 4, 5, 6, 7, 8, 9, 10, 11]) from by decide]
      rw [d11]
      refine held_val p12 r4_6_8_9_10_11 g12 (exec_field0 e12 (S := Z.S) (p := Z.o) (by simp [eval_put, size_put, ha, ha2, ha5])) (ws _ h4) ?_
      rw [show (LB [0, 1, 2, 3, 4, 5, 6, 7, 8, 9, 10, 11]).setIfInBounds 12 true = (LB [0, 1, 2, 3, 4, 5, 6, 7, 8, 9, 10, 11, 12]) from by decide]
      rw [d12]
      refine held_one p13 r4_6_8_9_10_11_12 g13 ?_
      refine wp_store_mid 27 _ _ e13 Z.S Z.o (nums .u32 8 (wf (plus A (comp (plus initial A) b)))) (by simp [eval_put, size_put, ha, ha2, ha5]) (by simp [eval_put, size_put, ha, ha2, ha5]) ((sha _ h4).there 0 _ (by rw [nums_size]; omega)) (size_state _) (nums_one _ _ _) ⟨ws2 _ h4, ?_⟩
      rw [show (LB [0, 1, 2, 3, 4, 5, 6, 7, 8, 9, 10, 11, 12]).setIfInBounds 13 true = (LB [0, 1, 2, 3, 4, 5, 6, 7, 8, 9, 10, 11, 12, 13]) from by decide]
      exact held_done r4_6_8_9_10_11_12_13 (fin _ _ h4) _
    · refine wp_call e8 (by simp [eval_put, size_put, ha, ha2, ha5]) (enters_of Tryd.func30 (by kernel_rfl) rfl) (expand_any _ bb X1) ?_
      intro X2 q2
      have h2 := nx h1 q2
      refine ⟨ws _ h2, ?_⟩
      rw [show (LB [0, 1, 2, 3, 5, 6, 7]).setIfInBounds 8 true = (LB [0, 1, 2, 3, 5, 6, 7, 8]) from by decide]
      rw [d8]
      refine held_two p4 p9 r6_8 g4 g9 ?_ ?_
      · refine wp_of_run (exec_load e4 (by simp [eval_put, size_put, ha, ha2, ha5]) (load_added_var X2 Z _ _ _ (sha _ h2))) ⟨ws _ h2, ?_⟩
        rw [show (LB [0, 1, 2, 3, 5, 6, 7, 8]).setIfInBounds 4 true = (LB [0, 1, 2, 3, 4, 5, 6, 7, 8]) from by decide]
        rw [d4]
        refine held_one p9 r4_6_8 g9 ?_
        refine wp_call e9 (by simp [eval_put, size_put, ha, ha2, ha5]) (enters_of Tryd.func28 (by kernel_rfl) rfl) (rounds_any (plus initial A) (words b) (plus_words _ _) (words_words bb) X2 (tab _ h2)) ?_
        intro X3 q3
        have h3 := nx h2 q3
        refine ⟨ws _ h3, ?_⟩
        rw [comp_eq]
        rw [show (LB [0, 1, 2, 3, 4, 5, 6, 7, 8]).setIfInBounds 9 true = (LB [0, 1, 2, 3, 4, 5, 6, 7, 8, 9]) from by decide]
        rw [d9]
        refine held_one p10 r4_6_8_9 g10 ?_
        refine wp_call e10 (by simp [eval_put, size_put, ha, ha2, ha5]) (enters_of Tryd.func27 (by kernel_rfl) rfl) (plus_any A (comp (plus initial A) b) hA (comp_words (plus_words _ _) _) X3) ?_
        intro X4 q4
        have h4 := nx h3 q4
        refine ⟨ws _ h4, ?_⟩
        rw [show (LB [0, 1, 2, 3, 4, 5, 6, 7, 8, 9]).setIfInBounds 10 true = (LB [0, 1, 2, 3, 4, 5, 6, 7, 8, 9, 10]) from by decide]
        rw [d10]
        refine held_val p11 r4_6_8_9_10 g11 (exec_nil e11 (p := ⟨Z.S, Z.o, none⟩) (by simp [eval_put, size_put, ha, ha2, ha5])) (ws _ h4) ?_
        rw [show (LB [0, 1, 2, 3, 4, 5, 6, 7, 8, 9, 10]).setIfInBounds 11 true = (LB [0, 1, 2, 3, 4, 5, 6, 7, 8, 9, 10, 11]) from by decide]
        rw [d11]
        refine held_val p12 r4_6_8_9_10_11 g12 (exec_field0 e12 (S := Z.S) (p := Z.o) (by simp [eval_put, size_put, ha, ha2, ha5])) (ws _ h4) ?_
        rw [show (LB [0, 1, 2, 3, 4, 5, 6, 7, 8, 9, 10, 11]).setIfInBounds 12 true = (LB [0, 1, 2, 3, 4, 5, 6, 7, 8, 9, 10, 11, 12]) from by decide]
        rw [d12]
        refine held_one p13 r4_6_8_9_10_11_12 g13 ?_
        refine wp_store_mid 27 _ _ e13 Z.S Z.o (nums .u32 8 (wf (plus A (comp (plus initial A) b)))) (by simp [eval_put, size_put, ha, ha2, ha5]) (by simp [eval_put, size_put, ha, ha2, ha5]) ((sha _ h4).there 0 _ (by rw [nums_size]; omega)) (size_state _) (nums_one _ _ _) ⟨ws2 _ h4, ?_⟩
        rw [show (LB [0, 1, 2, 3, 4, 5, 6, 7, 8, 9, 10, 11, 12]).setIfInBounds 13 true = (LB [0, 1, 2, 3, 4, 5, 6, 7, 8, 9, 10, 11, 12, 13]) from by decide]
        exact held_done r4_6_8_9_10_11_12_13 (fin _ _ h4) _
      · refine wp_call e9 (by simp [eval_put, size_put, ha, ha2, ha5]) (enters_of Tryd.func28 (by kernel_rfl) rfl) (rounds_any (plus initial A) (words b) (plus_words _ _) (words_words bb) X2 (tab _ h2)) ?_
        intro X3 q3
        have h3 := nx h2 q3
        refine ⟨ws _ h3, ?_⟩
        rw [comp_eq]
        rw [show (LB [0, 1, 2, 3, 5, 6, 7, 8]).setIfInBounds 9 true = (LB [0, 1, 2, 3, 5, 6, 7, 8, 9]) from by decide]
        rw [d9]
        refine held_one p4 r6_8_9 g4 ?_
        refine wp_of_run (exec_load e4 (by simp [eval_put, size_put, ha, ha2, ha5]) (load_added_var X3 Z _ _ _ (sha _ h3))) ⟨ws _ h3, ?_⟩
        rw [show (LB [0, 1, 2, 3, 5, 6, 7, 8, 9]).setIfInBounds 4 true = (LB [0, 1, 2, 3, 4, 5, 6, 7, 8, 9]) from by decide]
        rw [d4]
        refine held_one p10 r4_6_8_9 g10 ?_
        refine wp_call e10 (by simp [eval_put, size_put, ha, ha2, ha5]) (enters_of Tryd.func27 (by kernel_rfl) rfl) (plus_any A (comp (plus initial A) b) hA (comp_words (plus_words _ _) _) X3) ?_
        intro X4 q4
        have h4 := nx h3 q4
        refine ⟨ws _ h4, ?_⟩
        rw [show (LB [0, 1, 2, 3, 4, 5, 6, 7, 8, 9]).setIfInBounds 10 true = (LB [0, 1, 2, 3, 4, 5, 6, 7, 8, 9, 10]) from by decide]
        rw [d10]
        refine held_val p11 r4_6_8_9_10 g11 (exec_nil e11 (p := ⟨Z.S, Z.o, none⟩) (by simp [eval_put, size_put, ha, ha2, ha5])) (ws _ h4) ?_
        rw [show (LB [0, 1, 2, 3, 4, 5, 6, 7, 8, 9, 10]).setIfInBounds 11 true = (LB [0, 1, 2, 3, 4, 5, 6, 7, 8, 9, 10, 11]) from by decide]
        rw [d11]
        refine held_val p12 r4_6_8_9_10_11 g12 (exec_field0 e12 (S := Z.S) (p := Z.o) (by simp [eval_put, size_put, ha, ha2, ha5])) (ws _ h4) ?_
        rw [show (LB [0, 1, 2, 3, 4, 5, 6, 7, 8, 9, 10, 11]).setIfInBounds 12 true = (LB [0, 1, 2, 3, 4, 5, 6, 7, 8, 9, 10, 11, 12]) from by decide]
        rw [d12]
        refine held_one p13 r4_6_8_9_10_11_12 g13 ?_
        refine wp_store_mid 27 _ _ e13 Z.S Z.o (nums .u32 8 (wf (plus A (comp (plus initial A) b)))) (by simp [eval_put, size_put, ha, ha2, ha5]) (by simp [eval_put, size_put, ha, ha2, ha5]) ((sha _ h4).there 0 _ (by rw [nums_size]; omega)) (size_state _) (nums_one _ _ _) ⟨ws2 _ h4, ?_⟩
        rw [show (LB [0, 1, 2, 3, 4, 5, 6, 7, 8, 9, 10, 11, 12]).setIfInBounds 13 true = (LB [0, 1, 2, 3, 4, 5, 6, 7, 8, 9, 10, 11, 12, 13]) from by decide]
        exact held_done r4_6_8_9_10_11_12_13 (fin _ _ h4) _
end Go.Proofs.YtkhhejkemkldgaaDoor
